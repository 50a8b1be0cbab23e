import Derived.Lib.AppendZerosOnto
import Derived.DeepKeys4
import Derived.Test.YtgiglpnaekbegaaGreatDoorEFm
import Derived.Test.YtgiglpnaekbegaaGreatDoorEOv
import Derived.Test.YtgiglpnaekbegaaGreatDoorEVd
import Derived.Test.YtgiglpnaekbegaaGreatDoorEIv
namespace Go.Proofs.YtgiglpnaekbegaaGreatDoor
set_option maxRecDepth 8000
set_option maxHeartbeats 40000000
open Go.RowKit Go.Deep
structure Tot {α:Type} (lt:α→α→Bool) (cmp:α→α→Int):Prop where
 neg:∀ a b,cmp a b<0↔lt a b=true
 tr:∀ a b c,lt a b=true→lt b c=true→lt a c=true
 tri:∀ a b,lt a b=false→cmp a b≠0→lt b a=true
 eqr:∀ a b c,cmp b c=0→lt a b=true→lt a c=true
def cS {α:Type} (lt:α→α→Bool) (l:List α) (t:α):Nat:=(l.takeWhile (fun y=>lt y t)).length
theorem ug {α:Type} (lt:α→α→Bool) (l:List α) (t:α):cS lt l t≤l.length:=by
 unfold cS;have:=(List.takeWhile_prefix (l:=l) (fun y=>lt y t)).length_le;exact this
theorem Bq {α:Type} (d:α) (p:α→Bool):∀ (l:List α) (i:Nat),i<(l.takeWhile p).length→p (l.getD i d)=true
 |[],i,h=>by simp at h
 |y::l,i,h=>by
  rw[Yy]at h;split at h
  ·rename_i hy
   cases i with
   |zero=>exact hy
   |succ i=>
    rw[Xm]at h;have:=Bq d p l i (by omega);simpa using this
  ·simp at h
theorem r6 {α:Type} (d:α) (p:α→Bool):∀ (l:List α),(l.takeWhile p).length<l.length→p (l.getD (l.takeWhile p).length d)=false
 |[],h=>by simp at h
 |y::l,h=>by
  rw[Yy]at h ⊢;split
  ·rename_i hy
   rw[if_pos hy]at h;have:=r6 d p l (by simpa using h);simpa using this
  ·rename_i hy
   simpa using hy
theorem L2 {α:Type} {R:α→α→Prop} {l:List α} (d:α) (h:l.Pairwise R) {i j:Nat} (ID:i<j) (hj:j<l.length):R (l.getD i d) (l.getD j d):=by
 have hi:i<l.length:=by omega
 have e1:l.getD i d=l[i]:=by simp[hi]
 have e2:l.getD j d=l[j]:=by simp[hj]
 rw[e1,e2];exact YO.1 h i j hi hj ID
theorem qb {α:Type} {lt:α→α→Bool} {cmp:α→α→Int} (T:Tot lt cmp) (d:α) (l:List α) (t:α):∀ i,i<cS lt l t→cmp (l.getD i d) t<0:=fun i hi=>(T.neg _ _).2 (Bq d (fun y=>lt y t) l i hi)
theorem vA {α:Type} {lt:α→α→Bool} {cmp:α→α→Int} (T:Tot lt cmp) (d:α) {l:List α} (h:l.Pairwise fun a b=>lt a b=true) (t:α):∀ i,cS lt l t≤i→i<l.length→0≤cmp (l.getD i d) t:=fun i hi hl=>by
 have hf:=r6 d (fun y=>lt y t) l (Nat.lt_of_le_of_lt hi hl);by_cases e:cmp (l.getD i d) t<0
 ·have h1:=(T.neg _ _).1 e;exfalso;by_cases q:cS lt l t=i
  ·subst q;unfold cS at h1;rw[hf]at h1;cases h1
  ·have h2:=L2 d h (i:=cS lt l t) (j:=i) (by omega) hl;have h3:=T.tr _ _ _ h2 h1;unfold cS at h3;rw[hf]at h3;cases h3
 ·omega
theorem xt {α:Type} {lt:α→α→Bool} {cmp:α→α→Int} (T:Tot lt cmp) (d:α) {l:List α} (h:l.Pairwise fun a b=>lt a b=true) (t:α):(∃ y∈l,cmp y t=0)↔(cS lt l t<l.length∧cmp (l.getD (cS lt l t) d) t=0):=by
 constructor
 ·rintro⟨y,hy,e⟩;obtain⟨i,hi,rfl⟩:=XZ hy;have eg:l.getD i d=l[i]:=by simp[hi]
  have h1:cS lt l t≤i:=by
   refine YH fun q=> ?_;have:=qb T d l t i q;rw[eg,e]at this;omega
  have h2:i=cS lt l t:=by
   refine Nat.le_antisymm (YH fun q=> ?_) h1;have h3:=L2 d h q hi;rw[eg]at h3;have h4:=T.eqr _ _ _ e h3;have hf:=r6 d (fun y=>lt y t) l (by show cS lt l t<_;omega);unfold cS at h4;rw[hf]at h4;cases h4
  rw[← h2];exact⟨hi,by rw[eg];exact e⟩
 ·rintro⟨h1,h2⟩;have eg:l.getD (cS lt l t) d=l[cS lt l t]:=by simp[h1]
  exact⟨_,Xq h1,by rw[← eg];exact h2⟩
theorem lj {α:Type} (lt:α→α→Bool) (l:List α) (t:α):Pl.putAt (fun y=>lt y t) l t=l.take (cS lt l t)++t::l.drop (cS lt l t):=by
 have e:=Yu (p:=fun y=>lt y t) (l:=l);have h1:l.take (cS lt l t)=l.takeWhile (fun y=>lt y t):=by
  have q:=List.take_left (l₁:=l.takeWhile (fun y=>lt y t)) (l₂:=l.dropWhile (fun y=>lt y t));rw[e]at q;exact q
 have h2:l.drop (cS lt l t)=l.dropWhile (fun y=>lt y t):=by
  have q:=List.drop_left (l₁:=l.takeWhile (fun y=>lt y t)) (l₂:=l.dropWhile (fun y=>lt y t));rw[e]at q;exact q
 rw[h1,h2];rfl
theorem pl_pair {α:Type} {lt:α→α→Bool} {cmp:α→α→Int} (T:Tot lt cmp) (d:α) {l:List α} (h:l.Pairwise fun a b=>lt a b=true) (t:α) (hn:¬ (cS lt l t<l.length∧cmp (l.getD (cS lt l t) d) t=0)):(l.take (cS lt l t)++t::l.drop (cS lt l t)).Pairwise fun a b=>lt a b=true:=by
 have hnf:∀ y∈l,cmp y t≠0:=fun y hy e=>hn ((xt T d h t).1 ⟨y,hy,e⟩);rw[List.pairwise_append];refine⟨h.sublist (List.take_sublist _ _), ?_,fun a ha b hb=> ?_⟩
 ·rw[List.pairwise_cons];refine⟨fun b hb=> ?_,h.sublist (List.drop_sublist _ _)⟩;obtain⟨i,hi,rfl⟩:=XZ hb;rw[Xy]at hi;have hl:cS lt l t+i<l.length:=by omega
  rw[List.getElem_drop];have h1:=vA T d h t (cS lt l t+i) (Nat.le_add_right _ _) hl;have eg:l.getD (cS lt l t+i) d=l[cS lt l t+i]:=by simp[hl]
  rw[eg]at h1;refine T.tri _ _ ?_ (hnf _ (Xq hl));cases hq:lt l[cS lt l t+i] t
  ·rfl
  ·have:=(T.neg _ _).2 hq;omega
 ·obtain⟨i,hi,rfl⟩:=XZ ha;rw[Xo]at hi;have hl:i<l.length:=by omega
  rw[List.getElem_take];have h1:=(T.neg _ _).1 (qb T d l t i (by omega));have eg:l.getD i d=l[i]:=by simp[hl]
  rw[eg]at h1;rcases XD.1 hb with rfl|q
  ·exact h1
  ·obtain⟨j,hj,rfl⟩:=XZ q;rw[Xy]at hj;rw[List.getElem_drop];exact YO.1 h i (cS lt l t+j) hl (by omega) (by omega)
theorem wX:∀ a b c:List UInt8,Op.bytesLess a b=true→Op.bytesLess b c=true→Op.bytesLess a c=true
 |_,_,[],_,h=>by unfold Op.bytesLess at h;cases h
 |_,[],_::_,h,_=>by unfold Op.bytesLess at h;cases h
 |[],_::_,_::_,_,_=>by unfold Op.bytesLess;rfl
 |x::a,y::b,z::c,h1,h2=>by
  unfold Op.bytesLess at h1 h2 ⊢;simp only[YR,Xj,decide_eq_true_iff,beq_iff_eq]at h1 h2 ⊢;rcases h1 with h1|⟨e1,h1⟩
  ·rcases h2 with h2|⟨e2,_⟩
   ·exact No (UInt8.lt_trans h1 h2)
   ·exact No (e2 ▸ h1)
  ·rcases h2 with h2|⟨e2,h2⟩
   ·exact No (e1 ▸ h2)
   ·exact Xk ⟨e1.trans e2,wX a b c h1 h2⟩
theorem Fh:∀ a b:List UInt8,Op.bytesLess a b=false→(a==b)=false→Op.bytesLess b a=true
 |[],[],_,h=>by simp at h
 |[],_::_,h,_=>by unfold Op.bytesLess at h;cases h
 |_::_,[],_,_=>by unfold Op.bytesLess;rfl
 |x::a,y::b,h1,h2=>by
  unfold Op.bytesLess at h1 ⊢;simp only[Bool.or_eq_false_iff,Bool.and_eq_false_iff,decide_eq_false_iff_not,YR,Xj,decide_eq_true_iff,beq_iff_eq]at h1 ⊢;by_cases e:x=y
  ·subst e;refine Xk ⟨rfl,Fh a b ?_ ?_⟩
   ·rcases h1.2 with q|q
    ·simp at q
    ·exact q
   ·rw[beq_eq_false_iff_ne]at h2 ⊢;exact fun q=>h2 (by rw[q])
  ·refine No ?_;have h3:=h1.1;rw[UInt8.lt_iff_toNat_lt]at h3 ⊢;have:x.toNat≠y.toNat:=fun q=>e (YP.1 q);omega
theorem jU:Tot Pl.pM cj where
 neg:=j4
 tr:=fun a b c=>wX _ _ _
 tri:=fun a b h hc=>Fh _ _ h (by
  cases q:(a.toList==b.toList)
  ·rfl
  ·exact absurd ((bG a b).2 q) hc)
 eqr:=fun a b c h hl=>by rw[← lV ((bG b c).1 h)];exact hl
theorem Tot.lex {α β γ:Type} {lt1:β→β→Bool} {c1:β→β→Int} {lt2:γ→γ→Bool} {c2:γ→γ→Int} (f:α→β) (g:α→γ) (T1:Tot lt1 c1) (T2:Tot lt2 c2) (i1:∀ a b c,c1 a b=0→lt1 b c=true→lt1 a c=true) (s1:∀ a b,c1 a b=0→c1 b a=0) (t1:∀ a b c,c1 a b=0→c1 b c=0→c1 a c=0)
  (lt:α→α→Bool) (cmp:α→α→Int) (hc:∀ a b,cmp a b=fR (c1 (f a) (f b)) (c2 (g a) (g b))) (hn:∀ a b,cmp a b<0↔lt a b=true):Tot lt cmp:=by
 have key:∀ a b,lt a b=true↔(lt1 (f a) (f b)=true∨(c1 (f a) (f b)=0∧lt2 (g a) (g b)=true)):=fun a b=>by
  rw[← hn,hc];unfold fR;by_cases h:c1 (f a) (f b)=0
  ·rw[if_pos h];have h0:¬ lt1 (f a) (f b)=true:=fun q=>by have:=(T1.neg _ _).2 q;omega
   constructor
   ·exact fun q=>Xk ⟨h,(T2.neg _ _).1 q⟩
   ·rintro(q|⟨_,q⟩)
    ·exact absurd q h0
    ·exact(T2.neg _ _).2 q
  ·rw[if_neg h];constructor
   ·exact fun q=>No ((T1.neg _ _).1 q)
   ·rintro(q|⟨q,_⟩)
    ·exact(T1.neg _ _).2 q
    ·exact absurd q h
 have zero:∀ a b,cmp a b=0↔(c1 (f a) (f b)=0∧c2 (g a) (g b)=0):=fun a b=>by
  rw[hc];unfold fR;by_cases h:c1 (f a) (f b)=0
  ·rw[if_pos h];simp[h]
  ·rw[if_neg h];simp[h]
 refine⟨hn,fun a b c h1 h2=> ?_,fun a b h1 h2=> ?_,fun a b c h1 h2=> ?_⟩
 ·rw[key]at h1 h2 ⊢;rcases h1 with h1|⟨e1,h1⟩
  ·rcases h2 with h2|⟨e2,_⟩
   ·exact No (T1.tr _ _ _ h1 h2)
   ·exact No (T1.eqr _ _ _ e2 h1)
  ·rcases h2 with h2|⟨e2,h2⟩
   ·exact No (i1 _ _ _ e1 h2)
   ·exact Xk ⟨t1 _ _ _ e1 e2,T2.tr _ _ _ h1 h2⟩
 ·rw[key];have P5:¬ (lt1 (f a) (f b)=true∨(c1 (f a) (f b)=0∧lt2 (g a) (g b)=true)):=fun q=>by rw[(key a b).2 q]at h1;cases h1
  by_cases e:c1 (f a) (f b)=0
  ·refine Xk ⟨s1 _ _ e,T2.tri _ _ ?_ (fun q=>h2 ((zero a b).2 ⟨e,q⟩))⟩;cases q:lt2 (g a) (g b)
   ·rfl
   ·exact absurd (Xk ⟨e,q⟩) P5
  ·refine No (T1.tri _ _ ?_ e);cases q:lt1 (f a) (f b)
   ·rfl
   ·exact absurd (No q) P5
 ·obtain⟨e1,e2⟩:=(zero b c).1 h1;rw[key]at h2 ⊢;rcases h2 with h2|⟨q1,q2⟩
  ·exact No (T1.eqr _ _ _ e1 h2)
  ·exact Xk ⟨t1 _ _ _ q1 e1,T2.eqr _ _ _ e2 q2⟩
theorem BM {a b:ByteArray} (h:cj a b=0):cj b a=0:=by
 have:=lV ((bG a b).1 h);subst this;exact h
theorem N2 {a b c:ByteArray} (h:cj a b=0) (k:cj b c=0):cj a c=0:=by
 have:=lV ((bG a b).1 h);subst this;exact k
theorem uo:Tot Pl.ahead eE:=
 Tot.lex Pl.Bl.kind Pl.Bl.name jU jU (fun a b c h k=>by rw[lV ((bG a b).1 h)];exact k) (fun _ _=>BM) (fun _ _ _=>N2) _ _ (fun _ _=>rfl) (fun a b=>by rw[← ur,decide_eq_true_iff])
theorem gw:∀ A B:List ByteArray,db A B=0↔A=B
 |[],[]=>by unfold db;simp
 |[],_::_=>by unfold db;simp
 |_::_,[]=>by unfold db;simp
 |a::x,b::y=>by
  unfold db;by_cases h:cj a b=0
  ·have e:=lV ((bG a b).1 h);subst e;rw[if_pos h,gw x y];simp
  ·rw[if_neg h];constructor
   ·exact fun q=>absurd q h
   ·intro q;injection q with q1 _
    subst q1;exact absurd ((bG a a).2 (by unfold Pl.eZ;simp)) h
theorem yd:∀ A B C:List ByteArray,db A B<0→db B C<0→db A C<0
 |_,[],[],_,h=>by unfold db at h;omega
 |[],_,_::_,_,_=>by unfold db;omega
 |_::_,[],_,h,_=>by unfold db at h;omega
 |[],_::_,[],_,h=>by unfold db at h;omega
 |_::_,_::_,[],_,h=>by unfold db at h;omega
 |a::x,b::y,c::z,h1,h2=>by
  unfold db at h1 h2 ⊢;by_cases e1:cj a b=0
  ·have q1:=lV ((bG a b).1 e1);subst q1;rw[if_pos e1]at h1;by_cases e2:cj a c=0
   ·rw[if_pos e2]at h2 ⊢;exact yd x y z h1 h2
   ·rw[if_neg e2]at h2 ⊢;exact h2
  ·rw[if_neg e1]at h1;by_cases e2:cj b c=0
   ·have q2:=lV ((bG b c).1 e2);subst q2;rw[if_neg e1];exact h1
   ·rw[if_neg e2]at h2;have h3:=jU.tr a b c ((jU.neg _ _).1 h1) ((jU.neg _ _).1 h2);have h4:=(jU.neg _ _).2 h3;rw[if_neg (by omega)];exact h4
theorem ub:∀ A B:List ByteArray,¬ db A B<0→db A B≠0→db B A<0
 |[],[],_,h=>by unfold db at h;omega
 |[],_::_,h,_=>by unfold db at h;omega
 |_::_,[],_,_=>by unfold db;omega
 |a::x,b::y,h1,h2=>by
  unfold db at h1 h2 ⊢;by_cases e1:cj a b=0
  ·rw[if_pos e1]at h1 h2;rw[if_pos (BM e1)];exact ub x y h1 h2
  ·rw[if_neg e1]at h1 h2;have h3:Pl.pM a b=false:=by
    cases q:Pl.pM a b
    ·rfl
    ·exact absurd ((jU.neg _ _).2 q) h1
   have h4:=(jU.neg _ _).2 (jU.tri a b h3 e1);rw[if_neg (by omega)];exact h4
theorem FM:Tot Pl.du db where
 neg:=gM
 tr:=fun a b c h k=>(gM _ _).1 (yd a b c ((gM _ _).2 h) ((gM _ _).2 k))
 tri:=fun a b h k=>(gM _ _).1 (ub a b (fun q=>by rw[(gM _ _).1 q]at h;cases h) k)
 eqr:=fun a b c h k=>by rw[← (gw b c).1 h];exact k
theorem NX:Tot (fun a b:Int=>decide (a<b)) eo where
 neg:=fun a b=>by rw[rI,decide_eq_true_iff]
 tr:=fun a b c h k=>by rw[decide_eq_true_iff]at h k ⊢;omega
 tri:=fun a b h k=>by
  rw[decide_eq_false_iff_not]at h;rw[decide_eq_true_iff];have:a≠b:=fun e=>k ((cH a b).2 e);omega
 eqr:=fun a b c h k=>by rw[← (cH b c).1 h];exact k
theorem pj (kind:ByteArray):Tot (Pl.aL kind) (cQ (Pl.ah kind)):=
 Tot.lex (fun x:Pl.Ln=>Pl.ixI (Pl.bP (Pl.ah kind) x.key)) Pl.Ln.ws NX FM (fun a b c h k=>by rw[(cH a b).1 h];exact k) (fun a b h=>by rw[(cH a b).1 h];exact(cH b b).2 rfl) (fun a b c h k=>by rw[(cH a b).1 h];exact k) _ _ (fun _ _=>rfl) (fun a b=>by rw[← ud,decide_eq_true_iff])
theorem uw {key:ByteArray}:∀ (l:List Pl.Ru) (i j:Nat),Pl.fp key l i=some j→i≤j∧(l.getD (j - i) Pl.bu).key=key
 |[],_,_,h=>by unfold Pl.fp at h;cases h
 |r::l,i,j,h=>by
  unfold Pl.fp at h;split at h
  ·rename_i hk
   injection h with h;subst h
   refine⟨zE, ?_⟩;rw[Nat.sub_self];exact fv (by simpa using hk)
  ·have:=uw l (i+1) j h;refine⟨by omega, ?_⟩;have e:j - i=(j - (i+1))+1:=by omega
   rw[e,List.getD_cons_succ];exact this.2
theorem GW {l:List Pl.Ru} {key:ByteArray} {j:Nat} (h:Pl.bP l key=some j):(l.getD j Pl.bu).key=key:=by
 have:=(uw l 0 j h).2;rwa [Nat.sub_zero]at this
def Pl.dV (ru:Pl.Ru) (l:List Pl.Ln):List Pl.Ln:=if decide ((Pl.aO l ru.key).length=0)&& !ru.many then [⟨ru.key,ru.dflt⟩] else Pl.aO l ru.key
def Pl.filled (kind:ByteArray) (l:List Pl.Ln):List Pl.Ln:=(Pl.ah kind).flatMap (fun r=>Pl.dV r l)
theorem Af (ws:List ByteArray) (v:Value) (W:World) (h:Raw W bm [.row ws.length (txD ws)] [v]) (hn:ws.length≤4194304):
  Calls Tryz.prog 129 #[v] W (eT bm (.row ws.length (txD ws)) W):=by
 obtain⟨v',W',xs,bC,hg,hb⟩:=kO (P:=Tryz.prog) W.heap.size 38 38 9 9 1 16 _ Tryz.gP Tryz.bI rfl (by decide) (by decide) [.s] rfl (by simp[dL]) W (.slice none 0 0) (No rfl) zE ws.length (txD ws) v h hn;obtain⟨F,r,nd,fr⟩:=hg.done;have HD:Hid (eT bm (.row ws.length (txD ws)) W (.returned v') W'):=⟨_,F,rfl,r,nd,fr,hb⟩
 obtain⟨va,vc,ev⟩:=h.aT;subst ev;obtain⟨wx,wc,wg⟩:=hg.shape;subst wg;clear h hg r nd fr hb;go_enter Tryz.func129,Tryz.ntmps129
 go_wp2_with (at_builtin;refine Go.Lib.wpList_append_run _ rfl _ _ 38 38 rfl _ _ rfl rfl _ W' bC ?_)
 go_ret;exact HD.out
theorem Ds (x:Pl.Ln) (va:Option Addr) (vc:Nat) (W:World) (hv:Raw W bm [.row x.ws.length (txD x.ws)] [.slice va x.ws.length vc]) (hn:x.ws.length≤4194304):
  Calls Tryz.prog 108 #[.agg #[.string x.key,.slice va x.ws.length vc]] W (Ans ao (lnD x) W):=by
 obtain⟨b0,aU⟩:∃ b,b=W.heap.size:=⟨_,rfl⟩
 obtain⟨wa,aP⟩:∃ wa,wa=(W.alloc (.cells #[.string x.key,.slice va x.ws.length vc] 41)).alloc (.cells #[.string {data:=#[]},.slice none 0 0] 41):=⟨_,rfl⟩
 have HB:Hid (Bel W wa):=by show Below _ _ _;rw[aP];exact af (af zR _) _
 have HX:Hid (aA wa b0 41 [.string x.key,.slice va x.ws.length vc]):=by show aA _ _ _ _;rw[aP,aU];exact(aA.new W [.string x.key,.slice va x.ws.length vc] _ _ rfl).later (af zR _)
 have HO:Hid (aN wa (b0+1) 41 2):=by show aN _ _ _ _;rw[aP];exact aN.eL _ _ _ _ _ rfl (by simp[aU])
 have ZA:Hid (wa.heap.size=b0+2):=by show _=_;rw[aP];simp[aU]
 have HZ:=uh aU;have HC:=uh (Af x.ws (.slice va x.ws.length vc) wa (hv.later HB.out) hn);go_enter Tryz.func108,Tryz.ntmps108
 go_upto_region 1 with fail
 rw[← aP,← aU];clear aP aU hv hn;have xa:=HX.out.get 1 _ rfl;have xl:=HX.out.own.lt;go_wp2_with fail
 refine HC.out.mono ?_;rintro e w1 ⟨v1,F,rfl,r,nd,fr,hb⟩;obtain⟨wx,wc,wg⟩:=r.raw.aT;subst wg;have HR:=uh (Xt r (Xt nd fr));have kg:=HX.out.later hb;have iI:w1.there b0 1 1:=aX kg.own _ _ (by simp);obtain⟨y,hy⟩:∃ y,y=w1.setCell ⟨b0,1,none⟩ (.slice wx x.ws.length wc):=⟨_,rfl⟩
 have jb:Hid (aA y b0 41 [.string x.key,.slice wx x.ws.length wc]):=by show aA _ _ _ _;rw[hy];exact kg.set 1 _ (by simp)
 have HM:Hid (Marks (fun b=>b=b0) w1 y):=by show Marks _ _ _;rw[hy];exact Marks.sc (S:=fun b=>b=b0) _ rfl _ _
 have fy:=uh (HM.out.own _ _ _ (HO.out.later hb));have eM:Hid (Bel W y):=HM.out.below (fun b e=>by rw[e,HZ.out];exact zE) (ae HB.out hb);have HF:Hid (∀ b∈F,b0+2≤b):=fun b hb=>by have:=HR.out.2.2 b hb;have:=ZA.out;omega
 have x1:=kg.get 1 _ rfl;have xf:=kg.own.frozen 1;have xz:=kg.own.lt;clear r nd fr hb xa xl iI;go_upto_region 2 with fail
 rw[← hy];clear hy x1 xf xz kg HC;have iO:=jb.out.own.lt;have lF:=jb.out.at_;have bJ:y.there (b0+1) 0 (#[.string x.key,.slice wx x.ws.length wc]:Array Value).size:=aX fy.out _ _ (by simp);obtain⟨we,aZ⟩:∃ we,we=y.setCells (b0+1) 0 [.string x.key,.slice wx x.ws.length wc]:=⟨_,rfl⟩
 have dP:we.rangeAt (b0+1) 0 [.string x.key,.slice wx x.ws.length wc]:=by rw[aZ];exact World.rangeAt_setCells_same _ _ _ _ bJ
 have jK:Hid (Marks (fun b=>b=b0+1) y we):=by show Marks _ _ _;rw[aZ];exact bf (S:=fun b=>b=b0+1) rfl _ _ _
 have fm:Hid (Bel W we):=by show Below _ _ _;rw[aZ];exact bW (by have:=HZ.out;omega) _ _ _ eM.out
 go_wp2_with (first|(refine wpList_load_mid rfl 41 _ rfl b0 0 rfl [.string x.key,.slice wx x.ws.length wc] _ lF Tryz.underlying41 rfl (by kernel_rfl) ?_)|(refine wpList_store_mid rfl 41 _ _ rfl (b0+1) 0 #[.string x.key,.slice wx x.ws.length wc] rfl rfl bJ (by kernel_rfl) (by simp[Value.oneCell']) ?_))
 first|rw[← aZ]|(simp only[Xi];rw[← aZ])
 try simp only[Act.put]
 refine bodyPost_ret (v:=.agg #[.string x.key,.slice wx x.ws.length wc]) (by simp[results,Tryz.results108,asAddr,run_loadVar_mid (P:=Tryz.prog) _ _ _ 41 [.string x.key,.slice wx x.ws.length wc] _ dP Tryz.underlying41 rfl (by kernel_rfl)]) rfl ?_;have M1:=HR.out.1.cO HM.out (fun b hb e=>by have:=HF.out b hb;omega);have M2:=M1.cO jK.out (fun b hb e=>by have:=HF.out b hb;omega);refine⟨[.string x.key,.slice wx x.ws.length wc],F++[],rfl,fE _ M2,by rw[Xl];exact HR.out.2.1,fun b hb=>by rw[Xl]at hb;have:=HF.out b hb;have:=HZ.out;omega,fm.out⟩
theorem sW (n:Nat) (W:World) (hn:n≤4194304):Calls Tryz.prog 128 #[.slice none 0 0,.int .i64 n] W (eT aV (.row 0 []) W):=by
 have h1:¬ ((n:Int)<0):=by omega
 by_cases h0:n=0
 ·subst h0;go_enter Tryz.func128,Tryz.ntmps128
  go_wp2;go_ret;exact⟨_,[],rfl,.emp _ _ _ rfl .nil,XL,by simp,zR⟩
 obtain⟨i0,iK,hz,hs,eS⟩:=i6 Tryz.ir;have yU:∀ ty,(Builtin.append_ #[35,3] ty #[.slice none 0 0,.int .i64 (n:Int)]).run Tryz.prog W=.ok (.slice (some ⟨W.heap.size,0,none⟩) n (grownCap W n 0 41)) (W.drew.alloc (.cells ((#[]:Array Value)++Builtin.zeroCells #[.string {data:=#[]},.slice none 0 0] n++Builtin.zeroCells #[.string {data:=#[]},.slice none 0 0] (grownCap W n 0 41 - n)) 41)):=fun ty=>by
  have:=Lib.run_append_grow_zeros (P:=Tryz.prog) W 35 3 ty 41 i0 _ .i64 .i64 Tryz.cI Tryz.underlying3 iK hz none 0 0 [] (run_firstCells_none W.drew i0.size 0 0 0) n (by omega) (by rw[hs];decide) (by omega) (by omega) (by rw[eS];omega) (growslice_fits (by omega) (by rw[eS];omega));rw[Xr]at this;exact this
 have OO:n≤grownCap W n 0 41:=grownCap_ge W _ _ _;have sF:=grownCap_le_maxLen W n 0 41 (by unfold maxLen;omega);obtain⟨G,hG⟩:∃ G,G=grownCap W n 0 41:=⟨_,rfl⟩
 rw[← hG]at yU OO sF;obtain⟨cur,ks⟩:∃ cur,cur=(#[]:Array Value)++Builtin.zeroCells #[.string {data:=#[]},.slice none 0 0] n++Builtin.zeroCells #[.string {data:=#[]},.slice none 0 0] (G - n):=⟨_,rfl⟩
 have jn:cur.size=G*2:=by rw[ks,Yv,Yv,size_zeroCells,size_zeroCells];simp;omega
 rw[← ks]at yU;clear ks hG;obtain⟨w1,gB⟩:∃ w1,w1=W.drew.alloc (.cells cur 41):=⟨_,rfl⟩
 have HB:Hid (Bel W w1):=by show Below _ _ _;rw[gB];exact af (XF zR) _
 have HO:Hid (aN w1 W.heap.size 41 (G*2)):=by show aN _ _ _ _;rw[gB];exact⟨cur,heap_alloc_new W.drew _,jn⟩
 rw[← gB]at yU;unfold maxLen at sF;have I0:(0:Int)<(n:Int):=by omega
 clear gB jn;go_enter Tryz.func128,Tryz.ntmps128
 go_wp2_with (at_builtin;refine Lib.wpList_append_run _ rfl _ _ 35 3 rfl _ _ rfl rfl _ w1 (yU _) ?_)
 all_goals (go_ret;exact⟨_,[W.heap.size],rfl,.row _ _ W.heap.size 0 0 G 41 (G*2) [] [] [] HO.out (by simp) (by simp) ⟨by omega,by omega⟩ (Hw _ _ _) .nil .nil,by simp,by simp,HB.out⟩)
theorem ng (l:List Pl.Ln) (v:Value) (W:World) (h:Raw W aV [bD l] [v]) (hl:l.length≤4194304) (hw:∀ x∈l,x.ws.length≤4194304):
  Calls Tryz.prog 107 #[v,.func (.func 108) #[] #[]] W (eT aV (bD l) W):=by
 have HL:=uh h;have l4:=uh hw;obtain⟨va,vc,ev⟩:=h.aT;subst ev;clear h hw;obtain⟨n,hn⟩:∃ n,n=l.length:=⟨_,rfl⟩
 have HN:=uh hn;have gF:l.length=n:=hn.symm;clear hn;rw[gF]at hl ⊢;clear gF;go_enter Tryz.func107,Tryz.ntmps107
 go_wp2_with fail
 refine(sW n W hl).mono ?_;rintro e w0 ⟨v,F,rfl,r,nd,fr,hb⟩;obtain⟨va1,vc1,Ca⟩:=r.raw.aT;subst Ca;have HR:=uh r;have Ej:=uh (Xt nd fr);have HB:=uh hb;clear r nd fr hb;go_wp2;go_loopw [5,13] (fun vv i wr=>∃ (q:Nat) (F:List Nat),q≤n∧i=.int .i64 q∧Rep wr false aV F [.row q ((l.take q).flatMap lnD)] [vv]∧F.Nodup∧(∀ b∈F,W.heap.size≤b)∧Bel W wr) (fun _ i _=>n - (intOf i).toNat)
 case atStart=>exact⟨0,F,zN,rfl,HR.out,Ej.out.1,Ej.out.2,HB.out⟩
 case round=>
  obtain⟨q,F2,hq,rfl,hR,Mo,hF,hB⟩:=hrel;have gR:=uh hR;have fS:=uh (Xt Mo hF);have eM:=uh hB;obtain⟨va2,vc2,Ca⟩:=hR.raw.aT;subst Ca;clear hR Mo hF hB HR Ej HB;by_cases bq:q<n
  rotate_left
  ·obtain rfl:q=n:=by omega
   have tB:¬ ((q:Int)<(q:Int)):=by omega
   have Rk:Hid (Rep wr false aV F2 [bD l] [.slice va2 q vc2]):=by
    have h5:=gR.out;rw[Xp (by have:=HN.out;omega),HN.out]at h5;rw[HN.out];exact h5
   go_wp2;go_ret;exact⟨_,F2,rfl,Rk.out,fS.out.1,fS.out.2,eM.out⟩
  have kz:q<l.length:=by have:=HN.out;omega
  rcases bO (HL.out.later eM.out) with⟨e0,_⟩|⟨p,o,c,hv,hp,dR,aE⟩
  ·omega
  rw[← HN.out]at hv dR;injection hv with g1 _ g3
  subst g1;subst g3;unfold maxLen at dR;obtain⟨aw,cw,Ea,Po⟩:=aE q kz;have Ik:Hid (l.getD q Pl.aK∈l):=by
   show _∈_;have e:l.getD q Pl.aK=l[q]:=by simp[kz]
   rw[e];exact Xq kz
  have kc:=uh (Pl.cp Pl.aK l q kz);obtain⟨x,hx⟩:∃ x,x=l.getD q Pl.aK:=⟨_,rfl⟩
  rw[← hx]at Ea Po Ik kc;clear hx aE;obtain⟨y,hy⟩:∃ y,y=wr.alloc (.cells #[.string x.key,.slice aw x.ws.length cw] 41):=⟨_,rfl⟩
  have eS:Bel wr y:=by rw[hy];exact af zR _
  obtain⟨z0,dp⟩:∃ z,z=wr.heap.size:=⟨_,rfl⟩
  have HG:Hid (au y z0 [.string x.key,.slice aw x.ws.length cw]):=by show au _ _ _;rw[hy];exact au.new _ #[.string x.key,.slice aw x.ws.length cw] _ _ dp
  have S7:Hid (∀ b∈F2,b<z0):=by rw[dp];exact gR.out.lt
  have lG:(0:Int)≤(q:Int):=by omega
  have tg:(q:Int)<(n:Int):=by omega
  go_upto_region 5 with(refine wpList_load_mid rfl 41 _ rfl p (o+q*2) rfl [.string x.key,.slice aw x.ws.length cw] _ Ea Tryz.underlying41 rfl (by kernel_rfl) ?_)
  rw[← hy,← dp];clear hy Ea hp;replace gR:=uh (gR.out.later eS)
  replace eM:=uh (ae eM.out eS)
  have AZ:Hid (z0≤y.heap.size∧W.heap.size≤y.heap.size):=⟨by rw[dp];exact eS.size,eM.out.size⟩
  have HC:=uh (Ds x aw cw y (Po.later eS) (l4.out x Ik.out));clear eS Po dp;have gh:=HG.out.lt;have pU:=HG.out.at_;go_wp2_with (refine wpList_load_mid rfl 41 _ rfl z0 0 rfl [.string x.key,.slice aw x.ws.length cw] _ pU Tryz.underlying41 rfl (by kernel_rfl) ?_)
  refine HC.out.mono ?_;rintro e w1 ⟨cc,FV,rfl,rep,nd,fr,hb⟩;obtain⟨F3,v3,rfl,rfl,r3⟩:=vT rep;obtain⟨a1,m1,wC⟩:=r3.raw.aT;subst wC;clear r3;have Jh:Hid ((F3++[]).Nodup∧∀ b∈F3++[],y.heap.size≤b):=⟨nd,fr⟩
  have SU:=uh rep;replace eM:=uh (ae eM.out hb)
  replace gR:=uh (gR.out.later hb)
  have Cm:Hid (y.heap.size≤w1.heap.size):=hb.size;clear gh pU HC rep nd fr hb HG;obtain⟨wb,fa⟩:∃ wb,wb=w1.alloc (.cells #[.string x.key,.slice a1 x.ws.length m1] 41):=⟨_,rfl⟩
  have dG:Bel w1 wb:=by rw[fa];exact af zR _
  obtain⟨v',x3,F4,row,bC,rep,nd,jM,eC,ke⟩:=mc (P:=Tryz.prog) 35 35 41 2 40 _ Tryz.cI Tryz.ir rfl (by decide) ao rfl wb (gR.out.later dG) fS.out.1 (by omega) (F':=F3++[]) (d:=lnD x) (c':=[.string x.key,.slice a1 x.ws.length m1]) ⟨w1.heap.size,0,none⟩ (SU.out.later dG) Jh.out.1 (fun b hb e=>by have:=Jh.out.2 b hb;have:=S7.out b e;have:=AZ.out.1;omega) (by rw[fa];exact qP w1 #[.string x.key,.slice a1 x.ws.length m1] 41);obtain⟨wx,wc,wg⟩:=rep.raw.aT;subst wg;rw[fa]at bC;have pG:Hid (Bel W x3):=dF (ae eM.out dG) eC (fun b e=>fS.out.2 b (ke b e));have Q1:Hid (∀ b∈F4,W.heap.size≤b):=fun b hb=>by
   rcases jM b hb with e|e|e
   ·exact fS.out.2 b e
   ·have:=Jh.out.2 b e;have:=AZ.out.2;omega
   ·have:=dG.size;have:=Cm.out;have:=AZ.out;omega
  have Rx:Hid (Rep x3 false aV F4 [.row (q+1) ((l.take (q+1)).flatMap lnD)] [.slice wx (q+1) wc]):=by
   show Rep _ _ _ _ _ _;rw[kc.out,Xv,XE];exact rep
  have Q6:Hid F4.Nodup:=nd;clear rep nd jM eC ke dG fa;go_wp2_with (at_builtin;refine Go.Lib.wpList_append_run _ rfl _ _ 35 35 rfl _ _ rfl rfl _ x3 bC ?_)
  clear bC gR fS;go_roundw
  case rel=>exact⟨q+1,F4,by omega,by go_num,Rx.out,Q6.out,Q1.out,pG.out⟩
  case measure=>simp[intOf];omega
def QT (sh:List Sh) (A:Dt) (W:World) (e:Ending) (w':World):Prop:=∃ v,e=.returned v∧Raw w' sh [A] [v]∧Bel W w'
theorem rZ {l:List Pl.Ln} {pr:Pl.Ln→Bool} {k:Nat} (hk:k<l.length):(l.take (k+1)).filter pr=if pr (l.getD k Pl.aK) then (l.take k).filter pr++[l.getD k Pl.aK] else (l.take k).filter pr:=by
 rw[Pl.cp Pl.aK l k hk,List.filter_append,List.filter_cons,List.filter_nil];split<;>simp
theorem zG (l:List Pl.Ln) (pr:Pl.Ln→Bool) (v:Value) (B:Nat) (w:World) (h:Raw w aV [bD l] [v]) (hl:l.length≤4194304)
  (hF:∀ (x:Pl.Ln) (aw:Option Addr) (cw:Nat) (W:World),x∈l→Bel w W→Raw W bm [.row x.ws.length (txD x.ws)] [.slice aw x.ws.length cw]→Calls Tryz.prog 106 #[.agg #[.string x.key,.slice aw x.ws.length cw],.pointer (some ⟨B,0,none⟩)] W fun e w'=>e=.returned (.bool (pr x))∧Bel W w'):
  Calls Tryz.prog 103 #[v,.func (.func 106) #[] #[.pointer (some ⟨B,0,none⟩)]] w (QT aV (bD (l.filter pr)) w):=by
 have HL:=uh h;have HF:=uh hF;obtain⟨va,vc,ev⟩:=h.aT;subst ev;clear h hF;obtain⟨n,hn⟩:∃ n,n=l.length:=⟨_,rfl⟩
 have HN:=uh hn;have gF:l.length=n:=hn.symm;clear hn;rw[gF]at hl;rw[gF];clear gF;go_enter Tryz.func103,Tryz.ntmps103
 go_wp2;go_loopw [5,10] (fun vo vi wr=>∃ (k:Nat) (xs:List Value),k≤n∧vi=.int .i64 k∧Sv w wr 41 ao vo ((l.take k).filter pr).length (((l.take k).filter pr).flatMap lnD) xs∧Bel w wr) (fun _ vi _=>n - (intOf vi).toNat)
 case atStart=>exact⟨0,[],zN,rfl,⟨(Gr.nil w w.heap.size _ ao).row,.nil⟩,zR⟩
 case round=>
  obtain⟨k,xs,hk,rfl,hG,hB⟩:=hrel;have cV:=uh hG;have cB:=uh hB;obtain⟨ua,uc,sD⟩:=hG.shape;subst sD;clear hG hB;by_cases bq:k<n
  rotate_left
  ·have jq:l.take k=l:=Xp (by have:=HN.out;omega);rw[jq]at cV ⊢;have HD:Hid (QT aV (bD (l.filter pr)) w (.returned (.slice ua (l.filter pr).length uc)) wr):=⟨_,rfl,cV.out.done cB.out,cB.out⟩
   clear jq;go_wp2;go_ret;exact HD.out
  have eB:k<l.length:=by have:=HN.out;omega
  rcases bO HL.out with⟨e0,_⟩|⟨p,o,c,hv,hp,dR,aE⟩
  ·omega
  rw[← HN.out]at hv;injection hv with g1 _ g3
  subst g1;subst g3;obtain⟨aw,cw,dm,dH⟩:=aE k eB;have eU:=uh (rZ (pr:=pr) eB);have hle:((l.take k).filter pr).length≤n:=Xg (Yz _ _) (by rw[Xo];omega);have Ik:Hid (l.getD k Pl.aK∈l):=by
   show _∈_;have e:l.getD k Pl.aK=l[k]:=by simp[eB]
   rw[e];exact Xq eB
  obtain⟨x,hx⟩:∃ x,x=l.getD k Pl.aK:=⟨_,rfl⟩
  rw[← hx]at dm dH eU Ik;have eC:wr.rangeAt p (o+k*2) [.string x.key,.slice aw x.ws.length cw]:=aj dm hp cB.out;have qn:Hid (Raw w ao (lnD x) [.string x.key,.slice aw x.ws.length cw]):=.s _ dH;obtain⟨m,hm⟩:∃ m,m=((l.take k).filter pr).length:=⟨_,rfl⟩
  rw[← hm]at cV hle ⊢;have HM:=uh hm;have cZ:(0:Int)≤(k:Int):=by omega
  have dy:(k:Int)<(n:Int):=by omega
  obtain⟨y,hy⟩:∃ y,y=wr.alloc (.cells #[.string x.key,.slice aw x.ws.length cw] 41):=⟨_,rfl⟩
  have eS:Bel wr y:=by rw[hy];exact af zR _
  obtain⟨z0,dp⟩:∃ z,z=wr.heap.size:=⟨_,rfl⟩
  have HG:Hid (au y z0 [.string x.key,.slice aw x.ws.length cw]):=by show au _ _ _;rw[hy];exact au.new _ #[.string x.key,.slice aw x.ws.length cw] _ _ dp
  have HC:=uh (HF.out x aw cw y Ik.out (ae cB.out eS) (dH.later (ae cB.out eS)));clear hx dm dH aE dR hm;go_upto_region 5 with(refine wpList_load_mid rfl 41 _ rfl p (o+k*2) rfl [.string x.key,.slice aw x.ws.length cw] _ eC Tryz.underlying41 rfl (by kernel_rfl) ?_)
  rw[← hy,← dp];clear hy eC hp;replace cV:=uh (cV.out.later eS)
  replace cB:=uh (ae cB.out eS)
  clear eS dp;have gh:=HG.out.lt;have pU:=HG.out.at_;go_wp2_with (refine wpList_load_mid rfl 41 _ rfl z0 0 rfl [.string x.key,.slice aw x.ws.length cw] _ pU Tryz.underlying41 rfl (by kernel_rfl) ?_)
  refine HC.out.mono ?_;rintro e w1 ⟨rfl,cr⟩;replace cV:=uh (cV.out.later cr)
  replace cB:=uh (ae cB.out cr)
  replace HG:=uh (HG.out.later cr)
  clear cr gh pU HC;cases hq:pr x
  ·have HE:Hid ((l.take (k+1)).filter pr=(l.take k).filter pr):=by show _=_;rw[eU.out,hq];rfl
   clear hq;go_wp2;go_roundw
   case rel=>exact⟨k+1,xs,by omega,by go_num,by rw[HE.out,← HM.out];exact cV.out,cB.out⟩
   case measure=>simp[intOf];omega
  ·have HE:Hid ((l.take (k+1)).filter pr=(l.take k).filter pr++[x]):=by show _=_;rw[eU.out,hq];rfl
   clear hq;have gh:=HG.out.lt;have pU:=HG.out.at_;go_wp2_with first|refine wpList_load_mid rfl 41 _ rfl z0 0 rfl [.string x.key,.slice aw x.ws.length cw] _ pU Tryz.underlying41 rfl (by kernel_rfl) ?_|(refine vg (wa:=w) rfl _ _ rfl (.slice ua m uc) m _ xs rfl (cV.out.later (af zR _)) w1.heap.size 1 (lnD x) [.string x.key,.slice aw x.ws.length cw] rfl qn.out (World.news_of_block (cs:=#[.string x.key,.slice aw x.ws.length cw]) (heap_alloc_new w1 _)) (by omega) (Xg cB.out.size (by simp)) ?_;intro gg1 PW w2 q1 q2;have HQ:=uh (Xt q1 (cV.out.later (af zR _)|>.below (af cB.out _) q2));clear q1 q2)
   go_roundw
   case rel=>exact⟨k+1,_,by omega,by go_num,by rw[HE.out,At,← HM.out,Xv,XE];exact HQ.out.1,HQ.out.2⟩
   case measure=>simp[intOf];omega
theorem GF (x key:ByteArray) (v1:Value) (B:Nat) (w:World) (hB:w.cell? ⟨B,0,none⟩=some (.string key)) (bq:B<w.heap.size):
  Calls Tryz.prog 106 #[.agg #[.string x,v1],.pointer (some ⟨B,0,none⟩)] w fun e w'=>e=.returned (.bool (x.toList==key.toList))∧Bel w w':=by
 have dr:B≠w.heap.size:=by omega
 go_enter Tryz.func106,Tryz.ntmps106
 go_wp2;go_ret;refine⟨rfl, ?_⟩;repeat(first|exact zR|refine af ?_ _|refine XF ?_)
theorem Ni (ru:Pl.Ru) (a1 a3:Option Addr) (c1 c3:Nat) (l:List Pl.Ln) (v:Value) (w:World) (h:Raw w aV [bD l] [v]) (hl:l.length≤4194304) (hw:∀ x∈l,x.ws.length≤4194304) (hd:Raw w bm [.row ru.dflt.length (txD ru.dflt)] [.slice a3 ru.dflt.length c3]) (kk:ru.dflt.length≤4194304):
  Calls Tryz.prog 80 #[.agg #[.string ru.key,.slice a1 ru.args.length c1,.bool ru.many,.slice a3 ru.dflt.length c3],v] w (eT aV (bD (Pl.dV ru l)) w):=by
 have l4:=uh hw;have MC:=uh kk;obtain⟨wa,aP⟩:∃ wa,wa=w.alloc (.cells #[.string ru.key,.slice a1 ru.args.length c1,.bool ru.many,.slice a3 ru.dflt.length c3] 75):=⟨_,rfl⟩
 obtain⟨b0,aU⟩:∃ b0,b0=w.heap.size:=⟨_,rfl⟩
 have HB:Hid (Bel w wa):=by show Below _ _ _;rw[aP];exact af zR _
 have HK:Hid (au wa b0 [.string ru.key,.slice a1 ru.args.length c1,.bool ru.many,.slice a3 ru.dflt.length c3]):=by show au _ _ _;rw[aP,aU];exact au.new w #[.string ru.key,.slice a1 ru.args.length c1,.bool ru.many,.slice a3 ru.dflt.length c3] _ _ rfl
 have HD:=uh (hd.later HB.out);have HC:=uh (zG l (fun x=>x.key.toList==ru.key.toList) v b0 wa (h.later HB.out) hl (fun x aw cw W _ hb _=>GF x.key ru.key _ b0 W ((HK.out.later hb).get 0 _ rfl) (HK.out.later hb).lt));have kB:Hid ((Pl.aO l ru.key).length≤4194304):=Xg (Pl.gG _ _) hl;have HLW:Hid (∀ x∈Pl.aO l ru.key,x.ws.length≤4194304):=fun x hx=>l4.out x (YD.1 hx).1;have Tu:Hid (Pl.dV ru l=if decide ((Pl.aO l ru.key).length=0)&& !ru.many then [⟨ru.key,ru.dflt⟩] else Pl.aO l ru.key):=rfl;obtain⟨va,vc,ev⟩:=h.aT;subst ev;clear h hl hw hd kk l4;go_enter Tryz.func80,Tryz.ntmps80
 go_upto_region 1 with fail
 rw[← aP,← aU];clear aP aU;go_wp2_with fail
 refine HC.out.mono ?_;rintro e w1 ⟨v1,rfl,hr,hb⟩;obtain⟨out,Ed⟩:∃ out,out=Pl.aO l ru.key:=⟨_,rfl⟩
 have jO:Raw w1 aV [bD out] [v1]:=by rw[Ed];exact hr
 rw[← Ed]at kB HLW Tu;obtain⟨va1,vc1,ev1⟩:=jO.aT;subst ev1;have HR:=uh jO;replace HB:=uh (ae HB.out hb)
 replace HK:=uh (HK.out.later hb)
 replace HD:=uh (HD.out.later hb)
 clear hr jO hb Ed HC;have x0:=HK.out.get 0 _ rfl;have x2:=HK.out.get 2 _ rfl;have x3:=HK.out.get 3 _ rfl;have xl:=HK.out.lt;have kY:=uh (ng out (.slice va1 out.length vc1) w1 HR.out kB.out HLW.out);obtain⟨m,lG⟩:∃ m,m=out.length:=⟨_,rfl⟩
 have HM:=uh lG;rw[← lG]at kY;rw[← lG];clear lG HR;by_cases h0:m=0
 rotate_left
 ·have iK:¬ ((m:Int)=0):=by omega
  have HE:Hid (Pl.dV ru l=out):=by show _=_;rw[Tu.out,← HM.out];simp[h0]
  go_wp2_with fail
  refine kY.out.mono ?_;rintro e w2 ⟨v2,F,rfl,r,nd,fr,hb⟩;have HX:Hid (eT aV (bD (Pl.dV ru l)) w (.returned v2) w2):=by rw[HE.out];exact⟨_,F,rfl,r,nd,fun b gY=>Xg HB.out.size (fr b gY),ae HB.out hb⟩
  clear r nd fr hb;go_wp2;go_ret;exact HX.out
 subst h0;cases hm:ru.many
 rotate_left
 ·have HE:Hid (Pl.dV ru l=out):=by show _=_;rw[Tu.out,hm];simp
  rw[hm]at x2;go_wp2_with fail
  refine kY.out.mono ?_;rintro e w2 ⟨v2,F,rfl,r,nd,fr,hb⟩;have HX:Hid (eT aV (bD (Pl.dV ru l)) w (.returned v2) w2):=by rw[HE.out];exact⟨_,F,rfl,r,nd,fun b gY=>Xg HB.out.size (fr b gY),ae HB.out hb⟩
  clear r nd fr hb;go_wp2;go_ret;exact HX.out
 rw[hm]at x2;have HE:Hid (Pl.dV ru l=[⟨ru.key,ru.dflt⟩]):=by show _=_;rw[Tu.out,hm,← HM.out];simp
 obtain⟨w3,kf⟩:∃ w3,w3=w1.alloc (.cells #[.string ru.key,.slice a3 ru.dflt.length c3] 41):=⟨_,rfl⟩
 have ku:Bel w1 w3:=by rw[kf];exact af zR _
 have Qc:Hid (Raw w3 aV [bD [⟨ru.key,ru.dflt⟩]] [.slice (some ⟨w1.heap.size,0,none⟩) 1 1]):=by
  refine .row _ _ w1.heap.size 0 1 1 [.string ru.key,.slice a3 ru.dflt.length c3] _ (by rw[kf];simp) ⟨by decide,zE⟩ ?_ ?_ .nil
  ·rw[kf];exact(au.new w1 #[.string ru.key,.slice a3 ru.dflt.length c3] _ _ rfl).at_
  ·exact .s _ (HD.out.later ku)
 clear kY;have kY:=uh (ng [⟨ru.key,ru.dflt⟩] (.slice (some ⟨w1.heap.size,0,none⟩) 1 1) w3 Qc.out (by simp) (by intro x hx;rw[Yc]at hx;subst hx;exact MC.out));go_upto_region 4 with fail
 rw[← kf];clear kf;replace HB:=uh (ae HB.out ku)
 clear ku;go_wp2_with fail
 refine kY.out.mono ?_;rintro e w2 ⟨v2,F,rfl,r,nd,fr,hb⟩;have HX:Hid (eT aV (bD (Pl.dV ru l)) w (.returned v2) w2):=by rw[HE.out];exact⟨_,F,rfl,r,nd,fun b gY=>Xg HB.out.size (fr b gY),ae HB.out hb⟩
 clear r nd fr hb;go_wp2;go_ret;exact HX.out
theorem qx {α:Type} (R:α→α→Prop) (tr:∀ a b c,R a b→R b c→R a c) (l:List α) (d:α) (h:∀ i,0<i→i<l.length→R (l.getD (i - 1) d) (l.getD i d)):l.Pairwise R:=by
 rw[YO];have key:∀ (m i:Nat) (hi:i+m+1<l.length),R (l[i]'(by omega)) (l[i+m+1]'hi):=by
  intro m;induction m with
  |zero=>
   intro i hi;have:=h (i+1) (by omega) (by omega);have e1:l.getD i d=l[i]'(by omega):=by simp[show i<l.length by omega]
   have e2:l.getD (i+1) d=l[i+1]'(by omega):=by simp[show i+1<l.length by omega]
   rw[Nat.add_sub_cancel,e1,e2]at this;exact this
  |succ m ih=>
   intro i hi;have h1:=ih i (by omega);have h2:=h (i+m+2) (by omega) (by omega);have e1:l.getD (i+m+2 - 1) d=l[i+m+1]'(by omega):=by simp[show i+m+1<l.length by omega]
   have e2:l.getD (i+m+2) d=l[i+m+2]'(by omega):=by simp[show i+m+2<l.length by omega]
   rw[e1,e2]at h2;exact tr _ _ _ h1 h2
 intro i j hi hj ID;obtain⟨m,rfl⟩:∃ m,j=i+m+1:=⟨j - i - 1,by omega⟩
 exact key m i hj
theorem qX {s:List Pl.Bl} (h:Pl.bw s=true) {i:Nat} (hi:i<s.length):Pl.dQ s i=true:=by
 unfold Pl.bw at h;rw[Xj,Xu]at h;exact h.2 i (XV.2 hi)
theorem FO {s:List Pl.Bl} (h:Pl.bw s=true):s.length≤60:=by
 unfold Pl.bw at h;rw[Xj,decide_eq_true_iff]at h;exact h.1
theorem Ad {s:List Pl.Bl} (h:Pl.bw s=true):s.Pairwise fun a b=>Pl.ahead a b=true:=by
 refine qx _ uo.tr s Pl.aG fun i h0 hi=> ?_;have:=qX h hi;unfold Pl.dQ at this;rw[Xj,YR]at this;rcases this.2 with q|q
 ·rw[decide_eq_true_iff]at q;omega
 ·exact q
theorem xX {s:List Pl.Bl} (h:Pl.bw s=true):∀ b∈s,Pl.dA b.kind b.lines=true:=fun b hb=>by
 obtain⟨i,hi,rfl⟩:=XZ hb;have:=qX h hi;have e:s.getD i Pl.aG=s[i]:=by simp[hi]
 unfold Pl.dQ at this;rw[e,Xj,Xj]at this;exact this.1.2
theorem yH {kind:ByteArray} {l:List Pl.Ln} (h:Pl.dA kind l=true) {i:Nat} (hi:i<l.length):Pl.eG kind l i=true:=by
 unfold Pl.dA at h;rw[Xu]at h;exact h i (XV.2 hi)
theorem Ai {kind:ByteArray} {l:List Pl.Ln} (h:Pl.dA kind l=true):l.Pairwise fun a b=>Pl.aL kind a b=true:=by
 refine qx _ (pj kind).tr l Pl.aK fun i h0 hi=> ?_;have:=yH h hi;unfold Pl.eG at this;rw[Xj,Xj,YR]at this;rcases this.1.2 with q|q
 ·rw[decide_eq_true_iff]at q;omega
 ·exact q
theorem CL {kind:ByteArray} {l:List Pl.Ln} (h:Pl.dA kind l=true):∀ x∈l,Pl.bH kind x.key x.ws=true:=fun x hx=>by
 obtain⟨i,hi,rfl⟩:=XZ hx;have:=yH h hi;have e:l.getD i Pl.aK=l[i]:=by simp[hi]
 unfold Pl.eG at this;rw[e,Xj,Xj]at this;exact this.1.1
theorem xy {kind name:ByteArray}:∀ (l:List Pl.Bl) (j q:Nat) (hq:q<l.length),Pl.isB kind name l[q]=true→(∀ i (hi:i<q),Pl.isB kind name (l[i]'(by omega))=false)→Pl.findF kind name l j=some (j+q)
 |b::l,j,0,_,h,_=>by rw[Pl.findF];rw[YF]at h;rw[if_pos h];rfl
 |b::l,j,q+1,hq,h,hb=>by
  have h0:=hb 0 (by omega);rw[YF]at h0;rw[Pl.findF,h0];rw[List.getElem_cons_succ]at h;have:=xy l (j+1) q (by simpa using hq) h (fun i hi=>by have:=hb (i+1) (by omega);rw[List.getElem_cons_succ]at this;exact this);simp only[Yo,if_false];rw[this];congr 1;omega
theorem xM {kind name:ByteArray}:∀ (l:List Pl.Bl) (j:Nat),(∀ b∈l,Pl.isB kind name b=false)→Pl.findF kind name l j=none
 |[],_,_=>by rw[Pl.findF]
 |b::l,j,h=>by
  rw[Pl.findF,h b (by simp),xM l (j+1) (fun b hb=>h b (by simp[hb]))];rfl
structure Kn (W:World) (mb:Nat) (vt vb vs:Value):Prop where
 map:W.heap[mb]? =some (.map #[⟨.string {data:=#[116,101,97,109]},.agg #[vt],0⟩,⟨.string {data:=#[98,101,114,116,104]},.agg #[vb],1⟩,⟨.string {data:=#[115,101,114,118,105,99,101]},.agg #[vs],2⟩] 3)
 rules:∀ kind,∃ ra rc,iT kind vt vb vs=.slice ra (Pl.ah kind).length rc∧Raw W [.row 75 aB] [bV (Pl.ah kind)] [.slice ra (Pl.ah kind).length rc]
theorem Kn.lt {W:World} {mb:Nat} {vt vb vs:Value} (h:Kn W mb vt vb vs):mb<W.heap.size:=(Xh.1 h.map).1
theorem Kn.later {W W':World} {mb:Nat} {vt vb vs:Value} (h:Kn W mb vt vb vs) (hb:Bel W W'):Kn W' mb vt vb vs:=
 ⟨(hb.block _ h.lt).trans h.map,fun kind=>by obtain⟨ra,rc,e,hr⟩:=h.rules kind;exact⟨ra,rc,e,hr.later hb⟩⟩
def KnA (w:World) (e:Ending) (w':World):Prop:=∃ mb vt vb vs,e=.returned (.map (some mb))∧Kn w' mb vt vb vs∧Bel w w'
theorem Fb (w:World):Calls Tryz.prog 64 #[] w (KnA w):=by
 refine(kG w).mono ?_;rintro e w' ⟨mb,w0,vt,vb,vs,rfl,hm,h0,k1,k2,k3,hb⟩;refine⟨mb,vt,vb,vs,rfl,⟨hm,fun kind=> ?_⟩,hb⟩;obtain⟨v,F,he,gC,_⟩:=qH (w:=w) kind h0 k1 k2 k3 hb;injection he with he
 obtain⟨ra,rc,hv⟩:=gC.raw.aT;subst hv;exact⟨ra,rc,he,gC.raw⟩
theorem Kn.look {W:World} {mb:Nat} {vt vb vs:Value} (h:Kn W mb vt vb vs) (kind:ByteArray):∃ ra rc,(Instr.lookup 121 (.map (some mb)) (.string kind) false).run Tryz.prog W=.ok (.agg #[.slice ra (Pl.ah kind).length rc]) W∧Raw W [.row 75 aB] [bV (Pl.ah kind)] [.slice ra (Pl.ah kind).length rc]:=by
 obtain⟨ra,rc,e,hr⟩:=h.rules kind;have:=oT h.map kind;rw[e]at this;exact⟨ra,rc,this,hr⟩
theorem re (n:Nat) (W:World) (hn:n≤4194304):Calls Tryz.prog 105 #[.slice none 0 0,.int .i64 n] W (eT bL (.row 0 []) W):=by
 have h1:¬ ((n:Int)<0):=by omega
 by_cases h0:n=0
 ·subst h0;go_enter Tryz.func105,Tryz.ntmps105
  go_wp2;go_ret;exact⟨_,[],rfl,.emp _ _ _ rfl .nil,XL,by simp,zR⟩
 obtain⟨i0,iK,hz,hs,eS⟩:=i6 Tryz.ka;have yU:∀ ty,(Builtin.append_ #[24,3] ty #[.slice none 0 0,.int .i64 (n:Int)]).run Tryz.prog W=.ok (.slice (some ⟨W.heap.size,0,none⟩) n (grownCap W n 0 58)) (W.drew.alloc (.cells ((#[]:Array Value)++Builtin.zeroCells #[.string {data:=#[]},.string {data:=#[]},.slice none 0 0] n++Builtin.zeroCells #[.string {data:=#[]},.string {data:=#[]},.slice none 0 0] (grownCap W n 0 58 - n)) 58)):=fun ty=>by
  have:=Lib.run_append_grow_zeros (P:=Tryz.prog) W 24 3 ty 58 i0 _ .i64 .i64 Tryz.cW Tryz.underlying3 iK hz none 0 0 [] (run_firstCells_none W.drew i0.size 0 0 0) n (by omega) (by rw[hs];decide) (by omega) (by omega) (by rw[eS];omega) (growslice_fits (by omega) (by rw[eS];omega));rw[Xr]at this;exact this
 have OO:n≤grownCap W n 0 58:=grownCap_ge W _ _ _;have sF:=grownCap_le_maxLen W n 0 58 (by unfold maxLen;omega);obtain⟨G,hG⟩:∃ G,G=grownCap W n 0 58:=⟨_,rfl⟩
 rw[← hG]at yU OO sF;obtain⟨cur,ks⟩:∃ cur,cur=(#[]:Array Value)++Builtin.zeroCells #[.string {data:=#[]},.string {data:=#[]},.slice none 0 0] n++Builtin.zeroCells #[.string {data:=#[]},.string {data:=#[]},.slice none 0 0] (G - n):=⟨_,rfl⟩
 have jn:cur.size=G*3:=by rw[ks,Yv,Yv,size_zeroCells,size_zeroCells];simp;omega
 rw[← ks]at yU;clear ks hG;obtain⟨w1,gB⟩:∃ w1,w1=W.drew.alloc (.cells cur 58):=⟨_,rfl⟩
 have HB:Hid (Bel W w1):=by show Below _ _ _;rw[gB];exact af (XF zR) _
 have HO:Hid (aN w1 W.heap.size 58 (G*3)):=by show aN _ _ _ _;rw[gB];exact⟨cur,heap_alloc_new W.drew _,jn⟩
 rw[← gB]at yU;unfold maxLen at sF;have I0:(0:Int)<(n:Int):=by omega
 clear gB jn;go_enter Tryz.func105,Tryz.ntmps105
 go_wp2_with (at_builtin;refine Lib.wpList_append_run _ rfl _ _ 24 3 rfl _ _ rfl rfl _ w1 (yU _) ?_)
 all_goals (go_ret;exact⟨_,[W.heap.size],rfl,.row _ _ W.heap.size 0 0 G 58 (G*3) [] [] [] HO.out (by simp) (by simp) ⟨by omega,by omega⟩ (Hw _ _ _) .nil .nil,by simp,by simp,HB.out⟩)
theorem G7 (l:List Pl.Bl) (v:Value) (B1 B2:Nat) (W:World) (h:Raw W bL [cq l] [v]) (hl:l.length≤4194304) (gg:Pl.Bl→Pl.Bl) (hF:∀ (x:Pl.Bl) (aw:Option Addr) (cw:Nat) (X:World),x∈l→Bel W X→Raw X aV [bD x.lines] [.slice aw x.lines.length cw]→Calls Tryz.prog 79 #[.agg #[.string x.kind,.string x.name,.slice aw x.lines.length cw],.pointer (some ⟨B1,0,none⟩),.pointer (some ⟨B2,0,none⟩)] X (Ans aq (blD (gg x)) X)):
  Calls Tryz.prog 78 #[v,.func (.func 79) #[] #[.pointer (some ⟨B1,0,none⟩),.pointer (some ⟨B2,0,none⟩)]] W (eT bL (cq (l.map gg)) W):=by
 have HL:=uh h;have HF:=uh hF;obtain⟨va,vc,ev⟩:=h.aT;subst ev;clear h hF;obtain⟨n,hn⟩:∃ n,n=l.length:=⟨_,rfl⟩
 have HN:=uh hn;have gF:l.length=n:=hn.symm;clear hn;rw[gF]at hl ⊢;clear gF;go_enter Tryz.func78,Tryz.ntmps78
 go_wp2_with fail
 refine(re n W hl).mono ?_;rintro e w0 ⟨v,F,rfl,r,nd,fr,hb⟩;obtain⟨va1,vc1,Ca⟩:=r.raw.aT;subst Ca;have HR:=uh r;have Ej:=uh (Xt nd fr);have HB:=uh hb;clear r nd fr hb;go_wp2;go_loopw [5,13] (fun vv i wr=>∃ (q:Nat) (F:List Nat),q≤n∧i=.int .i64 q∧Rep wr false bL F [.row q ((l.take q).flatMap (fun y=>blD (gg y)))] [vv]∧F.Nodup∧(∀ b∈F,W.heap.size≤b)∧Bel W wr) (fun _ i _=>n - (intOf i).toNat)
 case atStart=>exact⟨0,F,zN,rfl,HR.out,Ej.out.1,Ej.out.2,HB.out⟩
 case round=>
  obtain⟨q,F2,hq,rfl,hR,Mo,hF,hB⟩:=hrel;have gR:=uh hR;have fS:=uh (Xt Mo hF);have eM:=uh hB;obtain⟨va2,vc2,Ca⟩:=hR.raw.aT;subst Ca;clear hR Mo hF hB HR Ej HB;by_cases bq:q<n
  rotate_left
  ·obtain rfl:q=n:=by omega
   have tB:¬ ((q:Int)<(q:Int)):=by omega
   have Rk:Hid (Rep wr false bL F2 [cq (l.map gg)] [.slice va2 q vc2]):=by
    have h5:=gR.out;rw[Xp (by have:=HN.out;omega),HN.out]at h5;rw[HN.out];unfold cq;rw[XT,List.flatMap_map];exact h5
   go_wp2;go_ret;exact⟨_,F2,rfl,Rk.out,fS.out.1,fS.out.2,eM.out⟩
  have kz:q<l.length:=by have:=HN.out;omega
  rcases cN (HL.out.later eM.out) with⟨e0,_⟩|⟨p,o,c,hv,hp,dR,aE⟩
  ·omega
  rw[← HN.out]at hv dR;injection hv with g1 _ g3
  subst g1;subst g3;unfold maxLen at dR;obtain⟨aw,cw,Ea,Po⟩:=aE q kz;have Ik:Hid (l.getD q Pl.aG∈l):=by
   show _∈_;have e:l.getD q Pl.aG=l[q]:=by simp[kz]
   rw[e];exact Xq kz
  have kc:=uh (Pl.cp Pl.aG l q kz);obtain⟨x,hx⟩:∃ x,x=l.getD q Pl.aG:=⟨_,rfl⟩
  rw[← hx]at Ea Po Ik kc;clear hx aE;obtain⟨y,hy⟩:∃ y,y=wr.alloc (.cells #[.string x.kind,.string x.name,.slice aw x.lines.length cw] 58):=⟨_,rfl⟩
  have eS:Bel wr y:=by rw[hy];exact af zR _
  obtain⟨z0,dp⟩:∃ z,z=wr.heap.size:=⟨_,rfl⟩
  have HG:Hid (au y z0 [.string x.kind,.string x.name,.slice aw x.lines.length cw]):=by show au _ _ _;rw[hy];exact au.new _ #[.string x.kind,.string x.name,.slice aw x.lines.length cw] _ _ dp
  have S7:Hid (∀ b∈F2,b<z0):=by rw[dp];exact gR.out.lt
  have lG:(0:Int)≤(q:Int):=by omega
  have tg:(q:Int)<(n:Int):=by omega
  go_upto_region 5 with(refine wpList_load_mid rfl 58 _ rfl p (o+q*3) rfl [.string x.kind,.string x.name,.slice aw x.lines.length cw] _ Ea Tryz.underlying58 rfl (by kernel_rfl) ?_)
  rw[← hy,← dp];clear hy Ea hp;replace gR:=uh (gR.out.later eS)
  replace eM:=uh (ae eM.out eS)
  have AZ:Hid (z0≤y.heap.size∧W.heap.size≤y.heap.size):=⟨by rw[dp];exact eS.size,eM.out.size⟩
  have HC:=uh (HF.out x aw cw y Ik.out eM.out (Po.later eS));clear eS Po dp;have gh:=HG.out.lt;have pU:=HG.out.at_;go_wp2_with (refine wpList_load_mid rfl 58 _ rfl z0 0 rfl [.string x.kind,.string x.name,.slice aw x.lines.length cw] _ pU Tryz.underlying58 rfl (by kernel_rfl) ?_)
  refine HC.out.mono ?_;rintro e w1 ⟨cc,FV,rfl,rep,nd,fr,hb⟩;obtain⟨F3,v3,rfl,rfl,r3⟩:=jc rep;obtain⟨a1,m1,wC⟩:=r3.raw.aT;subst wC;clear r3;have Jh:Hid ((F3++[]).Nodup∧∀ b∈F3++[],y.heap.size≤b):=⟨nd,fr⟩
  have SU:=uh rep;replace eM:=uh (ae eM.out hb)
  replace gR:=uh (gR.out.later hb)
  have Cm:Hid (y.heap.size≤w1.heap.size):=hb.size;clear gh pU HC rep nd fr hb HG;obtain⟨wb,fa⟩:∃ wb,wb=w1.alloc (.cells #[.string (gg x).kind,.string (gg x).name,.slice a1 (gg x).lines.length m1] 58):=⟨_,rfl⟩
  have dG:Bel w1 wb:=by rw[fa];exact af zR _
  obtain⟨v',x3,F4,row,bC,rep,nd,jM,eC,ke⟩:=mc (P:=Tryz.prog) 24 24 58 3 56 _ Tryz.cW Tryz.ka rfl (by decide) aq rfl wb (gR.out.later dG) fS.out.1 (by omega) (F':=F3++[]) (d:=blD (gg x)) (c':=[.string (gg x).kind,.string (gg x).name,.slice a1 (gg x).lines.length m1]) ⟨w1.heap.size,0,none⟩ (SU.out.later dG) Jh.out.1 (fun b hb e=>by have:=Jh.out.2 b hb;have:=S7.out b e;have:=AZ.out.1;omega) (by rw[fa];exact qP w1 #[.string (gg x).kind,.string (gg x).name,.slice a1 (gg x).lines.length m1] 58);obtain⟨wx,wc,wg⟩:=rep.raw.aT;subst wg;rw[fa]at bC;have pG:Hid (Bel W x3):=dF (ae eM.out dG) eC (fun b e=>fS.out.2 b (ke b e));have Q1:Hid (∀ b∈F4,W.heap.size≤b):=fun b hb=>by
   rcases jM b hb with e|e|e
   ·exact fS.out.2 b e
   ·have:=Jh.out.2 b e;have:=AZ.out.2;omega
   ·have:=dG.size;have:=Cm.out;have:=AZ.out;omega
  have Rx:Hid (Rep x3 false bL F4 [.row (q+1) ((l.take (q+1)).flatMap (fun y=>blD (gg y)))] [.slice wx (q+1) wc]):=by
   show Rep _ _ _ _ _ _;rw[kc.out,Xv,XE];exact rep
  have Q6:Hid F4.Nodup:=nd;clear rep nd jM eC ke dG fa;go_wp2_with (at_builtin;refine Go.Lib.wpList_append_run _ rfl _ _ 24 24 rfl _ _ rfl rfl _ x3 bC ?_)
  clear bC gR fS;go_roundw
  case rel=>exact⟨q+1,F4,by omega,by go_num,Rx.out,Q6.out,Q1.out,pG.out⟩
  case measure=>simp[intOf];omega
def Pl.eqL (f:Pl.Ln→Pl.Ln→Bool):List Pl.Ln→List Pl.Ln→Bool
 |[],[]=>true
 |a::x,b::y=>f a b&&Pl.eqL f x y
 |_,_=>false
theorem BF (f:Pl.Ln→Pl.Ln→Bool):∀ A B:List Pl.Ln,A.length≠B.length→Pl.eqL f A B=false
 |[],[],h=>by simp at h
 |[],_::_,_=>rfl
 |_::_,[],_=>rfl
 |a::x,b::y,h=>by rw[Pl.eqL,BF f x y (by simpa using h),Bool.and_false]
theorem MY (f:Pl.Ln→Pl.Ln→Bool) {A B:List Pl.Ln} {k:Nat} (h1:k<A.length) (h2:k<B.length):Pl.eqL f (A.drop k) (B.drop k)=(f (A.getD k Pl.aK) (B.getD k Pl.aK)&&Pl.eqL f (A.drop (k+1)) (B.drop (k+1))):=by
 have e1:A.getD k Pl.aK=A[k]:=by simp[h1]
 have e2:B.getD k Pl.aK=B[k]:=by simp[h2]
 rw[XA h1,XA h2,Pl.eqL,e1,e2]
theorem Dr (A B:List ByteArray):Pl.cL A B=(db A B==0):=by
 unfold Pl.cL;by_cases h:db A B=0
 ·have e:=(gw A B).1 h;subst e;have hl:Pl.du A A=false:=by
   cases q:Pl.du A A
   ·rfl
   ·have:=(FM.neg A A).2 q;omega
  rw[hl,h];rfl
 ·have e:(db A B==0)=false:=by simpa using h
  rw[e];cases q:Pl.du A B
  ·rw[FM.tri A B q h];rfl
  ·rfl
theorem Dy (rs:List Pl.Ru) (x y:Pl.Ln) (h:x.key=y.key):(cQ rs x y==0)=Pl.cL x.ws y.ws:=by
 rw[Dr];unfold cQ fR;rw[h,if_pos ((cH _ _).2 rfl)]
theorem pF {l:List Pl.Ln} {key:ByteArray}:∀ x∈Pl.aO l key,x.key=key:=fun x hx=>by
 unfold Pl.aO at hx;exact fv (by simpa using (YD.1 hx).2)
theorem yj (rs:List Pl.Ru) (key:ByteArray):∀ A B:List Pl.Ln,(∀ x∈A,x.key=key)→(∀ y∈B,y.key=key)→Pl.eqL (fun x y=>cQ rs x y==0) A B=Pl.dU A B
 |[],[],_,_=>rfl
 |[],_::_,_,_=>rfl
 |_::_,[],_,_=>rfl
 |a::x,b::y,h1,h2=>by
  have ha:=h1 a (by simp);have hb:=h2 b (by simp);have e:(a.key.toList==b.key.toList)=true:=by rw[ha,hb];simp
  rw[Pl.eqL,Pl.dU,yj rs key x y (fun z hz=>h1 z (by simp[hz])) (fun z hz=>h2 z (by simp[hz])),e,Dy rs a b (ha.trans hb.symm),Bool.true_and]
theorem Gk (rs:List Pl.Ru) (x y:Pl.Bl) (r:Pl.Ru) (hk:x.kind=y.kind) (hn:x.name=y.name):Pl.dh x y r=if Pl.eqL (fun x y=>cQ rs x y==0) (Pl.aO x.lines r.key) (Pl.aO y.lines r.key) then [] else [⟨if (Pl.aO y.lines r.key).length=0 then 4 else 3,y.kind,y.name,r.key,Pl.aO y.lines r.key⟩]:=by
 unfold Pl.dh;rw[yj rs r.key _ _ pF pF,hk,hn]
theorem pD {α:Type} (d:α) {l m:List α} {i:Nat} (h:i<l.length):(l++m).getD i d=l.getD i d:=by
 simp[List.getElem?_append_left h]
theorem pA {α:Type} (d:α) {l m:List α} {i:Nat} (h:l.length≤i):(l++m).getD i d=m.getD (i - l.length) d:=by
 simp[List.getElem?_append_right h]
def Kk (w0 w:World) (m:List Pl.Ln) (e:Ending) (w':World):Prop:=∃ v xs,e=.returned v∧w'.ownsRow w.heap.size 41 2 v m.length xs∧Raw w0 (bF m.length ao) (m.flatMap lnD) xs∧Bel w w'
theorem tR (l:List Pl.Ln) (pr:Pl.Ln→Bool) (v:Value) (B:Nat) (w:World) (w0:World) (aU:Bel w0 w) (h:Raw w0 aV [bD l] [v]) (hl:l.length≤4194304)
  (hF:∀ (x:Pl.Ln) (aw:Option Addr) (cw:Nat) (W:World),x∈l→Bel w W→Raw W bm [.row x.ws.length (txD x.ws)] [.slice aw x.ws.length cw]→Calls Tryz.prog 102 #[.agg #[.string x.key,.slice aw x.ws.length cw],.pointer (some ⟨B,0,none⟩)] W fun e w'=>e=.returned (.bool (pr x))∧Bel W w'):
  Calls Tryz.prog 103 #[v,.func (.func 102) #[] #[.pointer (some ⟨B,0,none⟩)]] w (Kk w0 w (l.filter pr)):=by
 have dX:=uh aU;clear aU;have HL:=uh h;have HF:=uh hF;obtain⟨va,vc,ev⟩:=h.aT;subst ev;clear h hF;obtain⟨n,hn⟩:∃ n,n=l.length:=⟨_,rfl⟩
 have HN:=uh hn;have gF:l.length=n:=hn.symm;clear hn;rw[gF]at hl;rw[gF];clear gF;go_enter Tryz.func103,Tryz.ntmps103
 go_wp2;go_loopw [5,10] (fun vo vi wr=>∃ (k:Nat) (xs:List Value),k≤n∧vi=.int .i64 k∧Sv w wr 41 ao vo ((l.take k).filter pr).length (((l.take k).filter pr).flatMap lnD) xs∧Raw w0 (bF ((l.take k).filter pr).length ao) (((l.take k).filter pr).flatMap lnD) xs∧Bel w wr) (fun _ vi _=>n - (intOf vi).toNat)
 case atStart=>exact⟨0,[],zN,rfl,⟨(Gr.nil w w.heap.size _ ao).row,.nil⟩,.nil,zR⟩
 case round=>
  obtain⟨k,xs,hk,rfl,hG,hRW,hB⟩:=hrel;have Cf:=uh hRW;clear hRW;have cV:=uh hG;have cB:=uh hB;obtain⟨ua,uc,sD⟩:=hG.shape;subst sD;clear hG hB;by_cases bq:k<n
  rotate_left
  ·have jq:l.take k=l:=Xp (by have:=HN.out;omega);rw[jq]at cV Cf ⊢;have HD:Hid (Kk w0 w (l.filter pr) (.returned (.slice ua (l.filter pr).length uc)) wr):=⟨_,xs,rfl,cV.out.row,Cf.out,cB.out⟩
   clear jq;go_wp2;go_ret;exact HD.out
  have eB:k<l.length:=by have:=HN.out;omega
  rcases bO HL.out with⟨e0,_⟩|⟨p,o,c,hv,hp,dR,aE⟩
  ·omega
  rw[← HN.out]at hv;injection hv with g1 _ g3
  subst g1;subst g3;obtain⟨aw,cw,dm,dH⟩:=aE k eB;have eU:=uh (rZ (pr:=pr) eB);have hle:((l.take k).filter pr).length≤n:=Xg (Yz _ _) (by rw[Xo];omega);have Ik:Hid (l.getD k Pl.aK∈l):=by
   show _∈_;have e:l.getD k Pl.aK=l[k]:=by simp[eB]
   rw[e];exact Xq eB
  obtain⟨x,hx⟩:∃ x,x=l.getD k Pl.aK:=⟨_,rfl⟩
  rw[← hx]at dm dH eU Ik;have eC:wr.rangeAt p (o+k*2) [.string x.key,.slice aw x.ws.length cw]:=aj dm hp (ae dX.out cB.out);have qn:Hid (Raw w0 ao (lnD x) [.string x.key,.slice aw x.ws.length cw]):=.s _ dH;obtain⟨m,hm⟩:∃ m,m=((l.take k).filter pr).length:=⟨_,rfl⟩
  rw[← hm]at cV Cf hle ⊢;have HM:=uh hm;have cZ:(0:Int)≤(k:Int):=by omega
  have dy:(k:Int)<(n:Int):=by omega
  obtain⟨y,hy⟩:∃ y,y=wr.alloc (.cells #[.string x.key,.slice aw x.ws.length cw] 41):=⟨_,rfl⟩
  have eS:Bel wr y:=by rw[hy];exact af zR _
  obtain⟨z0,dp⟩:∃ z,z=wr.heap.size:=⟨_,rfl⟩
  have HG:Hid (au y z0 [.string x.key,.slice aw x.ws.length cw]):=by show au _ _ _;rw[hy];exact au.new _ #[.string x.key,.slice aw x.ws.length cw] _ _ dp
  have HC:=uh (HF.out x aw cw y Ik.out (ae cB.out eS) (dH.later (ae dX.out (ae cB.out eS))));clear hx dm dH aE dR hm;go_upto_region 5 with(refine wpList_load_mid rfl 41 _ rfl p (o+k*2) rfl [.string x.key,.slice aw x.ws.length cw] _ eC Tryz.underlying41 rfl (by kernel_rfl) ?_)
  rw[← hy,← dp];clear hy eC hp;replace cV:=uh (cV.out.later eS)
  replace cB:=uh (ae cB.out eS)
  clear eS dp;have gh:=HG.out.lt;have pU:=HG.out.at_;go_wp2_with (refine wpList_load_mid rfl 41 _ rfl z0 0 rfl [.string x.key,.slice aw x.ws.length cw] _ pU Tryz.underlying41 rfl (by kernel_rfl) ?_)
  refine HC.out.mono ?_;rintro e w1 ⟨rfl,cr⟩;replace cV:=uh (cV.out.later cr)
  replace cB:=uh (ae cB.out cr)
  replace HG:=uh (HG.out.later cr)
  clear cr gh pU HC;cases hq:pr x
  ·have HE:Hid ((l.take (k+1)).filter pr=(l.take k).filter pr):=by show _=_;rw[eU.out,hq];rfl
   clear hq;go_wp2;go_roundw
   case rel=>exact⟨k+1,xs,by omega,by go_num,by rw[HE.out,← HM.out];exact cV.out,by rw[HE.out,← HM.out];exact Cf.out,cB.out⟩
   case measure=>simp[intOf];omega
  ·have HE:Hid ((l.take (k+1)).filter pr=(l.take k).filter pr++[x]):=by show _=_;rw[eU.out,hq];rfl
   clear hq;have gh:=HG.out.lt;have pU:=HG.out.at_;go_wp2_with first|refine wpList_load_mid rfl 41 _ rfl z0 0 rfl [.string x.key,.slice aw x.ws.length cw] _ pU Tryz.underlying41 rfl (by kernel_rfl) ?_|(refine vg (wa:=w) rfl _ _ rfl (.slice ua m uc) m _ xs rfl (cV.out.later (af zR _)) w1.heap.size 1 (lnD x) [.string x.key,.slice aw x.ws.length cw] rfl (qn.out.later dX.out) (World.news_of_block (cs:=#[.string x.key,.slice aw x.ws.length cw]) (heap_alloc_new w1 _)) (by omega) (Xg cB.out.size (by simp)) ?_;intro gg1 PW w2 q1 q2;have HQ:=uh (Xt q1 (cV.out.later (af zR _)|>.below (af cB.out _) q2));clear q1 q2)
   go_roundw
   case rel=>exact⟨k+1,_,by omega,by go_num,by rw[HE.out,At,← HM.out,Xv,XE];exact HQ.out.1,by rw[HE.out,At,← HM.out,Xv,XE];show Raw w0 (bF (m+1) ao) _ _;rw[gx];exact Cf.out.app qn.out,HQ.out.2⟩
   case measure=>simp[intOf];omega
theorem BE (x key:ByteArray) (v1:Value) (B:Nat) (w:World) (hB:w.cell? ⟨B,0,none⟩=some (.string key)) (bq:B<w.heap.size):
  Calls Tryz.prog 102 #[.agg #[.string x,v1],.pointer (some ⟨B,0,none⟩)] w fun e w'=>e=.returned (.bool (x.toList==key.toList))∧Bel w w':=by
 have dr:B≠w.heap.size:=by omega
 go_enter Tryz.func102,Tryz.ntmps102
 go_wp2;go_ret;refine⟨rfl, ?_⟩;repeat(first|exact zR|refine af ?_ _|refine XF ?_)
theorem zC (rs:List Pl.Ru) (ra:Option Addr) (rc:Nat) (x y:Pl.Ln) (ax ay:Option Addr) (cx cy B:Nat) (w:World) (hB:au w B [.slice ra rs.length rc]) (hl:rs.length≤100) (h:Raw w [.row 75 aB] [bV rs] [.slice ra rs.length rc]) (hx:Raw w bm [.row x.ws.length (txD x.ws)] [.slice ax x.ws.length cx]) (hy:Raw w bm [.row y.ws.length (txD y.ws)] [.slice ay y.ws.length cy]):
  Calls Tryz.prog 101 #[.agg #[.string x.key,.slice ax x.ws.length cx],.agg #[.string y.key,.slice ay y.ws.length cy],.pointer (some ⟨B,0,none⟩)] w fun e w'=>e=.returned (.bool (cQ rs x y==0))∧Bel w w':=by
 obtain⟨b0,aU⟩:∃ b,b=w.heap.size:=⟨_,rfl⟩
 obtain⟨wa,aP⟩:∃ wa,wa=(w.alloc (.cells #[.string x.key,.slice ax x.ws.length cx] 41)).alloc (.cells #[.string y.key,.slice ay y.ws.length cy] 41):=⟨_,rfl⟩
 have ti:Hid (Bel w wa):=by show Below _ _ _;rw[aP];exact af (af zR _) _
 have HX:Hid (au wa b0 [.string x.key,.slice ax x.ws.length cx]):=by show au _ _ _;rw[aP,aU];exact(au.new w #[.string x.key,.slice ax x.ws.length cx] _ _ rfl).eO _
 have HY:Hid (au wa (b0+1) [.string y.key,.slice ay y.ws.length cy]):=by show au _ _ _;rw[aP];exact au.new _ #[.string y.key,.slice ay y.ws.length cy] _ _ (by simp[aU])
 have HK:=uh (hB.later ti.out);have HC:=uh (uV rs ra rc x y ax ay cx cy wa hl (h.later ti.out) (hx.later ti.out) (hy.later ti.out));obtain⟨m,hm⟩:∃ m,m=cQ rs x y:=⟨_,rfl⟩
 rw[← hm]at HC;rw[← hm];clear hB hl h hx hy hm;go_enter Tryz.func101,Tryz.ntmps101
 go_upto_region 1 with fail
 rw[← aP,← aU];clear aP aU;have xk:=HK.out.at_;have xa:=HX.out.at_;have ya:=HY.out.at_;have xkl:=HK.out.lt;have xal:=HX.out.lt;have yal:=HY.out.lt;go_wp2_with (first|refine wpList_load_mid rfl 141 _ rfl B 0 rfl [.slice ra rs.length rc] _ xk Tryz.underlying141 rfl (by kernel_rfl) ?_|refine wpList_load_mid rfl 41 _ rfl b0 0 rfl [.string x.key,.slice ax x.ws.length cx] _ xa Tryz.underlying41 rfl (by kernel_rfl) ?_|refine wpList_load_mid rfl 41 _ rfl (b0+1) 0 rfl [.string y.key,.slice ay y.ws.length cy] _ ya Tryz.underlying41 rfl (by kernel_rfl) ?_)
 refine HC.out.mono ?_;rintro e w1 ⟨rfl,hb⟩;have eM:=uh (ae ti.out hb);clear hb xk xa ya xkl xal yal;go_wp2;go_ret;exact⟨rfl,eM.out⟩
theorem Kt (A B:List Pl.Ln) (va vb:Value) (p0:Nat) (f:Pl.Ln→Pl.Ln→Bool) (w:World) (hA:Raw w aV [bD A] [va]) (hB:Raw w aV [bD B] [vb])
  (hF:∀ (x y:Pl.Ln) (ax ay:Option Addr) (cx cy:Nat) (X:World),Bel w X→Raw X bm [.row x.ws.length (txD x.ws)] [.slice ax x.ws.length cx]→Raw X bm [.row y.ws.length (txD y.ws)] [.slice ay y.ws.length cy]→Calls Tryz.prog 101 #[.agg #[.string x.key,.slice ax x.ws.length cx],.agg #[.string y.key,.slice ay y.ws.length cy],.pointer (some ⟨p0,0,none⟩)] X fun e w'=>e=.returned (.bool (f x y))∧Bel X w'):
  Calls Tryz.prog 104 #[va,vb,.func (.func 101) #[] #[.pointer (some ⟨p0,0,none⟩)]] w fun e w'=>e=.returned (.bool (Pl.eqL f A B))∧Bel w w':=by
 obtain⟨a1,c1,rfl⟩:=hA.aT;obtain⟨a2,c2,rfl⟩:=hB.aT;have HF:=uh hF;clear hF;obtain⟨R,hR⟩:∃ R,R=Pl.eqL f A B:=⟨_,rfl⟩
 have HR:Hid (R=Pl.eqL f A B):=hR;rw[← hR];clear hR;by_cases hlen:A.length=B.length
 rotate_left
 ·have dr:((A.length:Int) !=(B.length:Int))=true:=by simp;omega
  have HE:Hid (R=false):=HR.out.trans (BF f A B hlen);clear hlen hA hB;go_enter Tryz.func104,Tryz.ntmps104
  go_wp2;go_ret;exact⟨Pl.ar HE.out.symm,zR⟩
 have HA:=uh (bO hA);have HB:=uh (bO hB);obtain⟨n,hn⟩:∃ n,n=A.length:=⟨_,rfl⟩
 have hm:B.length=n:=by omega
 rw[← hn]at HA;rw[hm]at HB;rw[← hn,hm];have HN:Hid (n=A.length∧n=B.length):=⟨hn,hm.symm⟩
 have uS:n≤maxLen:=by
  rcases HA.out with⟨h,_⟩|⟨_,_,_,_,_,h,_⟩
  ·omega
  ·exact h
 unfold maxLen at uS;have V6:((n:Int) !=(n:Int))=false:=by simp
 clear hA hB hn hm hlen;go_enter Tryz.func104,Tryz.ntmps104
 go_wp2;go_loopw [17] (fun i wr=>∃ k:Nat,k≤n∧i=.int .i64 k∧Hid (R=Pl.eqL f (A.drop k) (B.drop k))∧Bel w wr) (fun i _=>n - (intOf i).toNat)
 case atStart=>exact⟨0,zN,rfl,HR,zR⟩
 case round=>
  obtain⟨k,hk,rfl,HI,hB⟩:=hrel;have kv:=uh hB;clear hB;by_cases bq:k<n
  rotate_left
  ·obtain rfl:k=n:=by omega
   have HE:Hid (R=true):=by show R=_;rw[HI.out,Xz (by have:=HN.out.1;omega),Xz (by have:=HN.out.2;omega)];rfl
   go_wp2;go_ret;exact⟨Pl.ar HE.out.symm,kv.out⟩
  rcases HA.out with⟨e0,_⟩|⟨p,o,c,hv,hp,_,hc⟩
  ·omega
  injection hv with g1 _ g3
  subst g1;subst g3;rcases HB.out with⟨e0,_⟩|⟨p2,o2,WL,iH,tA,_,B9⟩
  ·omega
  injection iH with k1 _ k3
  subst k1;subst k3;obtain⟨ax,cx,dm,dH⟩:=hc k (by omega);obtain⟨ay,cy,ji,lQ⟩:=B9 k (by omega);have HS:Hid _:=uh (MY f (A:=A) (B:=B) (k:=k) (by rw[← HN.out.1];exact bq) (by rw[← HN.out.2];exact bq));obtain⟨x,hx⟩:∃ x,x=A.getD k Pl.aK:=⟨_,rfl⟩
  obtain⟨y,hy⟩:∃ y,y=B.getD k Pl.aK:=⟨_,rfl⟩
  rw[← hx]at HS dm dH;rw[← hy]at HS ji lQ;have SS:wr.rangeAt p (o+k*2) [.string x.key,.slice ax x.ws.length cx]:=aj dm hp kv.out;obtain⟨w1,gB⟩:∃ z,z=wr.alloc (.cells #[.string x.key,.slice ax x.ws.length cx] 41):=⟨_,rfl⟩
  have cr:Bel wr w1:=by rw[gB];exact af zR _
  obtain⟨w2,fw⟩:∃ z,z=w1.alloc (.cells #[.string y.key,.slice ay y.ws.length cy] 41):=⟨_,rfl⟩
  have dD:Bel w1 w2:=by rw[fw];exact af zR _
  have lS:=uh (ae kv.out cr);have eM:=uh (ae lS.out dD);obtain⟨z0,dp⟩:∃ z,z=wr.heap.size:=⟨_,rfl⟩
  obtain⟨z1,eV⟩:∃ z,z=w1.heap.size:=⟨_,rfl⟩
  have qs:Hid (au w2 z0 [.string x.key,.slice ax x.ws.length cx]):=by show au _ _ _;refine au.later ?_ dD;rw[gB];exact au.new _ #[.string x.key,.slice ax x.ws.length cx] _ _ dp
  have uM:Hid (au w2 z1 [.string y.key,.slice ay y.ws.length cy]):=by show au _ _ _;rw[fw];exact au.new _ #[.string y.key,.slice ay y.ws.length cy] _ _ eV
  have RX:w1.rangeAt p2 (o2+k*2) [.string y.key,.slice ay y.ws.length cy]:=aj ji tA lS.out;have nN:=uh (HF.out x y ax ay cx cy w2 eM.out (dH.later eM.out) (lQ.later eM.out));have cZ:(0:Int)≤(k:Int):=by omega
  have dy:(k:Int)<(n:Int):=by omega
  obtain⟨b,aU⟩:∃ b,b=f x y:=⟨_,rfl⟩
  rw[← aU]at nN HS;clear hx hy dm dH ji lQ hp tA hc B9 aU cr dD;go_upto_region 6 with(refine wpList_load_mid rfl 41 _ rfl p (o+k*2) rfl [.string x.key,.slice ax x.ws.length cx] _ SS Tryz.underlying41 rfl (by kernel_rfl) ?_)
  rw[← gB,← dp];clear gB dp SS;go_upto_region 7 with(refine wpList_load_mid rfl 41 _ rfl p2 (o2+k*2) rfl [.string y.key,.slice ay y.ws.length cy] _ RX Tryz.underlying41 rfl (by kernel_rfl) ?_)
  rw[← fw,← eV];clear fw eV RX;have xa:=qs.out.at_;have xl:=qs.out.lt;have ya:=uM.out.at_;have yl:=uM.out.lt;go_wp2_with (first|refine wpList_load_mid rfl 41 _ rfl z0 0 rfl [.string x.key,.slice ax x.ws.length cx] _ xa Tryz.underlying41 rfl (by kernel_rfl) ?_|refine wpList_load_mid rfl 41 _ rfl z1 0 rfl [.string y.key,.slice ay y.ws.length cy] _ ya Tryz.underlying41 rfl (by kernel_rfl) ?_)
  refine nN.out.mono ?_;rintro e w3 ⟨rfl,ku⟩;have pG:=uh (ae eM.out ku);clear ku xa xl ya yl nN;cases b
  ·have HE:Hid (R=false):=by show R=_;rw[HI.out,HS.out];rfl
   go_wp2;go_ret;exact⟨Pl.ar HE.out.symm,pG.out⟩
  ·have HE:Hid (R=Pl.eqL f (A.drop (k+1)) (B.drop (k+1))):=by show R=_;rw[HI.out,HS.out,Bool.true_and]
   go_wp2;go_roundw
   case rel=>exact⟨k+1,by omega,by go_num,HE,pG.out⟩
   case measure=>simp[intOf];omega
theorem mY (k n:ByteArray) (v:Value) (w:World):Calls Tryz.prog 76 #[.agg #[.string k,.string n,v]] w fun e w'=>e=.returned (.agg #[.string k,.string n])∧Bel w w':=by
 obtain⟨b0,aU⟩:∃ b,b=w.heap.size:=⟨_,rfl⟩
 obtain⟨wa,aP⟩:∃ wa,wa=(w.alloc (.cells #[.string k,.string n,v] 58)).alloc (.cells #[.string {data:=#[]},.string {data:=#[]}] 148):=⟨_,rfl⟩
 have HB:Hid (Bel w wa):=by show Below _ _ _;rw[aP];exact af (af zR _) _
 have HX:Hid (au wa b0 [.string k,.string n,v]):=by show au _ _ _;rw[aP,aU];exact(au.new w #[.string k,.string n,v] _ _ rfl).eO _
 have HO:Hid (aN wa (b0+1) 148 2):=by show aN _ _ _ _;rw[aP];exact aN.eL _ _ _ _ _ rfl (by simp[aU])
 have HZ:=uh aU;go_enter Tryz.func76,Tryz.ntmps76
 go_upto_region 1 with fail
 rw[← aP,← aU];clear aP aU;have x0:=HX.out.get 0 _ rfl;have x1:=HX.out.get 1 _ rfl;have xl:=HX.out.lt;have ol:=HO.out.lt;have bJ:wa.there (b0+1) 0 (#[.string k,.string n]:Array Value).size:=aX HO.out _ _ (by simp);obtain⟨we,aZ⟩:∃ we,we=wa.setCells (b0+1) 0 [.string k,.string n]:=⟨_,rfl⟩
 have dP:we.rangeAt (b0+1) 0 [.string k,.string n]:=by rw[aZ];exact World.rangeAt_setCells_same _ _ _ _ bJ
 have fm:Hid (Bel w we):=by show Below _ _ _;rw[aZ];exact bW (by have:=HZ.out;omega) _ _ _ HB.out
 go_wp2_with (refine wpList_store_mid rfl 148 _ _ rfl (b0+1) 0 #[.string k,.string n] rfl rfl bJ (by kernel_rfl) (by simp[Value.oneCell']) ?_)
 first|rw[← aZ]|(simp only[Xi];rw[← aZ])
 try simp only[Act.put]
 refine bodyPost_ret (v:=.agg #[.string k,.string n]) (by simp[results,Tryz.results76,asAddr,run_loadVar_mid (P:=Tryz.prog) _ _ _ 148 [.string k,.string n] _ dP Tryz.underlying148 rfl (by kernel_rfl)]) rfl ?_;exact⟨rfl,fm.out⟩
theorem Ht:WideMaps.KeyLaw Tryz.prog 148:=deep_law_laid (m:=3) (by kernel_rfl) (by decide) (by decide+kernel) (by kernel_rfl) (by kernel_rfl)
theorem JU:Tryz.prog.keyType 148=true:=by kernel_rfl
theorem QA:Tryz.prog.cellsOf 9=1:=by kernel_rfl
theorem Qp:Tryz.prog.cellsOf 148=2:=by kernel_rfl
theorem QE:decide (0<Tryz.prog.types.size)=true:=by kernel_rfl
theorem mg:Tryz.prog.underlying 144=some (.map 148 3):=by kernel_rfl
def hk (a b:ByteArray):Value:=.agg #[.string a,.string b]
theorem Hh {a b a' b':ByteArray} (h:hk a b=hk a' b'):a=a'∧b=b':=by
 unfold hk at h;injection h with h
 have h0:=congrArg (fun a:Array Value=>a[0]?) h;have h1:=congrArg (fun a:Array Value=>a[1]?) h;simp at h0 h1;exact⟨h0,h1⟩
theorem Dd (a b:ByteArray):Value.formed Tryz.prog 148 (hk a b)=true:=by kernel_rfl
theorem JV (d:Nat) (a b:ByteArray) (ha:a.size≤maxLen) (hb:b.size≤maxLen):∃ l,Tryz.prog.keyLits (d+1+1) 148 [.string a,.string b]=some l:=by
 simp[Program.keyLits,Tryz.underlying148,Qp,QA,ha,hb,Lit.wf]
theorem Ap (a b:ByteArray) (ha:a.size≤maxLen) (hb:b.size≤maxLen):∃ l,keyOf Tryz.prog 148 (hk a b)=some l:=by
 unfold keyOf;rw[Tryz.underlying148];obtain⟨d,e⟩:∃ d,Tryz.prog.types.size=d+1:=⟨Tryz.prog.types.size - 1,by have:=of_decide_eq_true QE;omega⟩
 simp only[JU,Dd,Bool.and_true,if_true,e];obtain⟨l,hl⟩:=JV d a b ha hb;rw[show (hk a b).cells.toList=[.string a,.string b] from rfl,hl];exact⟨_,rfl⟩
def hdK (s:List Pl.Bl) (i:Nat):Value:=hk (s.getD i Pl.aG).kind (s.getD i Pl.aG).name
def kp (s:List Pl.Bl) (k:Nat):Array MapEntry:=((List.range k).map fun i=>(⟨hdK s i,.int .i64 (i:Nat),i⟩:MapEntry)).toArray
theorem Bw (s:List Pl.Bl) (k i:Nat) (h:i<k):(kp s k)[i]? =some ⟨hdK s i,.int .i64 (i:Nat),i⟩:=by simp[kp,h]
theorem Cz (s:List Pl.Bl) (k:Nat):(kp s k).push ⟨hdK s k,.int .i64 (k:Nat),k⟩=kp s (k+1):=by
 unfold kp;rw[List.range_succ,Yr];simp
def Hsz (s:List Pl.Bl):Prop:=∀ i,i<s.length→(s.getD i Pl.aG).kind.size≤maxLen∧(s.getD i Pl.aG).name.size≤maxLen
def Hap (s:List Pl.Bl):Prop:=∀ i j,i<s.length→j<s.length→(s.getD i Pl.aG).kind=(s.getD j Pl.aG).kind→(s.getD i Pl.aG).name=(s.getD j Pl.aG).name→i=j
theorem tP {s:List Pl.Bl} (h:Pl.bw s=true):Hap s:=by
 have hp:=Ad h;rw[YO]at hp;have key:∀ i j,i<j→j<s.length→(s.getD i Pl.aG).kind=(s.getD j Pl.aG).kind→(s.getD i Pl.aG).name=(s.getD j Pl.aG).name→False:=fun i j ID hj h1 h2=>by
  have q:=hp i j (by omega) hj ID;have e1:s.getD i Pl.aG=s[i]'(by omega):=by simp[show i<s.length by omega]
  have e2:s.getD j Pl.aG=s[j]:=by simp[hj]
  rw[e1,e2]at h1 h2;have q2:=(uo.neg _ _).2 q;have q3:eE (s[i]'(by omega)) (s[j])=0:=by
   unfold eE fR;rw[h1,h2,if_pos ((bG _ _).2 (by unfold Pl.eZ;simp))];exact(bG _ _).2 (by unfold Pl.eZ;simp)
  omega
 intro i j hi hj h1 h2;by_cases e:i=j
 ·exact e
 ·exfalso;by_cases l:i<j
  ·exact key i j l hj h1 h2
  ·exact key j i (by omega) hi h1.symm h2.symm
theorem Kr {s:List Pl.Bl} (h:Hsz s) (i:Nat) (hi:i<s.length):∃ l,keyOf Tryz.prog 148 (hdK s i)=some l:=Ap _ _ (h i hi).1 (h i hi).2
theorem Bu (s:List Pl.Bl) (k:Nat) (W:World) (a b:ByteArray) (ha:a.size≤maxLen) (hb:b.size≤maxLen) (iP:k≤s.length) (hs:Hsz s):
  ((Instr.findKey 148 (hk a b) (kp s k).toList).run Tryz.prog W=.ok none W∧∀ i,i<k→hdK s i≠hk a b)∨
  ∃ i,i<k∧(Instr.findKey 148 (hk a b) (kp s k).toList).run Tryz.prog W=.ok (some (i,.int .i64 (i:Nat))) W∧hdK s i=hk a b:=by
 obtain⟨l,hl⟩:=Ap a b ha hb;have L1:∀ e∈(kp s k).toList,∃ l,keyOf Tryz.prog 148 e.key=some l:=by
  intro e he;unfold kp at he;simp only[YA,XV]at he;obtain⟨i,hi,rfl⟩:=he;exact Kr hs i (by omega)
 rcases Ht.find W hl _ L1 with⟨h1,h2⟩|⟨j,e,h1,h2,h3⟩
 ·refine No ⟨h1,fun i hi he=> ?_⟩;have:=Bw s k i hi;exact h2 _ (Xx (i:=i) (by simpa using this)) he
 ·have hj:j<k:=by
   have:=(Xn.1 h2).1;simpa [kp]using this
  have e2:=Bw s k j hj;have e3:(kp s k).toList[j]? =some ⟨hdK s j,.int .i64 (j:Nat),j⟩:=by simpa using e2
  rw[h2]at e3;injection e3 with e3
  subst e3;exact Xk ⟨j,hj,h1,h3⟩
theorem rh (W:World) (em:Bool) (a b:ByteArray) (ha:a.size≤maxLen) (hb:b.size≤maxLen):(Instr.checkKey em 10000 148 (hk a b)).run Tryz.prog W=.ok () W:=by
 obtain⟨l,hl⟩:=Ap a b ha hb;exact Ht.check W em hl
def pO (W:World) (mb:Nat) (o:Obj):World:={W with heap:=W.heap.setIfInBounds mb o}
theorem CR (W:World) (mb:Nat) (o:Obj):(pO W mb o).heap.size=W.heap.size:=by simp[pO]
theorem Kf {W:World} {mb:Nat} (o:Obj) (h:mb<W.heap.size):(pO W mb o).heap[mb]? =some o:=by simp[pO,h]
theorem zP {W:World} {mb b:Nat} (o:Obj) (h:b≠mb):(pO W mb o).heap[b]? =W.heap[b]? :=by
 simp only[pO];rw[Array.getElem?_setIfInBounds_ne (fun e=>h e.symm)]
theorem Below.pO {n:Nat} {a W:World} {mb:Nat} (h:Below n a W) (hn:n≤mb) (o:Obj):Below n a (pO W mb o):=
 ⟨h.os,h.tape,h.output,by rw[CR];exact h.size,fun k hk=>by rw[zP o (by omega)];exact h.block k hk⟩
theorem ND (es:Array MapEntry) (k mb:Nat) (W:World) (a b:ByteArray) (v:Value) (ha:a.size≤maxLen) (gY:b.size≤maxLen) (hb:W.heap[mb]? =some (.map es k)) (hn:(Instr.findKey 148 (hk a b) es.toList).run Tryz.prog W=.ok none W):
  (Instr.mapUpdate 144 (.map (some mb)) (hk a b) v).run Tryz.prog W=.ok () (pO W mb (.map (es.push ⟨hk a b,v,k⟩) (k+1))):=by
 have hc:=rh W false a b ha gY;simp[Instr.mapUpdate,run_underlying mg,MapKept.run_getObj_map hb,hc,hn,Result.andThen,MapKept.run_setObj_map _ hb,pO]
theorem M5 (es:Array MapEntry) (k mb i:Nat) (W:World) (a b:ByteArray) (v:Value) (ha:a.size≤maxLen) (gY:b.size≤maxLen) (hb:W.heap[mb]? =some (.map es k)) (hn:(Instr.findKey 148 (hk a b) es.toList).run Tryz.prog W=.ok (some (i,v)) W):
  (Instr.lookup 144 (.map (some mb)) (hk a b) true).run Tryz.prog W=.ok (.tuple #[v,.bool true]) W:=by
 have hc:=rh W es.isEmpty a b ha gY;simp[Instr.lookup,run_underlying mg,MapKept.run_getObj_map hb,hc,hn,Result.andThen]
theorem Kj (es:Array MapEntry) (k mb:Nat) (W:World) (a b:ByteArray) (ha:a.size≤maxLen) (gY:b.size≤maxLen) (hb:W.heap[mb]? =some (.map es k)) (hn:(Instr.findKey 148 (hk a b) es.toList).run Tryz.prog W=.ok none W):
  (Instr.lookup 144 (.map (some mb)) (hk a b) true).run Tryz.prog W=.ok (.tuple #[.int .i64 0,.bool false]) W:=by
 have hc:=rh W es.isEmpty a b ha gY;simp[Instr.lookup,run_underlying mg,MapKept.run_getObj_map hb,hc,hn,Result.andThen]
def ym (s:List Pl.Bl) (W:World) (mb:Nat):Prop:=W.heap[mb]? =some (.map (kp s s.length) s.length)
theorem ym.lt {s:List Pl.Bl} {W:World} {mb:Nat} (h:ym s W mb):mb<W.heap.size:=(Xh.1 h).1
theorem ym.later {s:List Pl.Bl} {W W':World} {mb:Nat} (h:ym s W mb) (hb:Bel W W'):ym s W' mb:=(hb.block mb h.lt).trans h
theorem Bo {s:List Pl.Bl} {W:World} {mb:Nat} (h:ym s W mb) (hs:Hsz s) (ha:Hap s) (a b:ByteArray) (hx:a.size≤maxLen) (hy:b.size≤maxLen):
  (Instr.lookup 144 (.map (some mb)) (.agg #[.string a,.string b]) true).run Tryz.prog W=.ok (.tuple #[.int .i64 (((Pl.di s a b).getD 0:Nat):Int),.bool (Pl.di s a b).isSome]) W:=by
 rcases Bu s s.length W a b hx hy zE hs with⟨h1,h2⟩|⟨i,hi,h1,h2⟩
 ·have e:Pl.di s a b=none:=xM s 0 fun x hx=>by
   obtain⟨i,hi,rfl⟩:=XZ hx;have:=h2 i hi;unfold hdK at this;have e1:s.getD i Pl.aG=s[i]:=by simp[hi]
   rw[e1]at this;rw[Yl];intro q;unfold Pl.isB at q;rw[Xj]at q;have r1:(s[i]).kind=a:=fv (by simpa using q.1);have r2:(s[i]).name=b:=fv (by simpa using q.2);exact this (by rw[r1,r2])
  rw[e];exact Kj _ _ mb W a b hx hy h h1
 ·have e1:s.getD i Pl.aG=s[i]:=by simp[hi]
  obtain⟨q1,q2⟩:=Hh h2;have e:Pl.di s a b=some i:=by
   have:=xy (kind:=a) (name:=b) s 0 i hi (by unfold Pl.isB;rw[← e1,q1,q2];simp) (fun jj hj=>by
    rw[Yl];intro q;unfold Pl.isB at q;rw[Xj]at q;have e2:s.getD jj Pl.aG=s[jj]'(by omega):=by simp[show jj<s.length by omega]
    have r1:(s[jj]'(by omega)).kind=a:=fv (by simpa using q.1);have r2:(s[jj]'(by omega)).name=b:=fv (by simpa using q.2);have:=ha jj i (by omega) hi (by rw[e2,r1,q1]) (by rw[e2,r2,q2]);omega)
   rw[Xr]at this;exact this
  rw[e];exact M5 _ _ mb i W a b _ hx hy h h1
theorem BQ (s:List Pl.Bl) (v:Value) (w:World) (h:Raw w bL [cq s] [v]) (hs:Hsz s) (ha:Hap s):
  Calls Tryz.prog 75 #[v] w fun e w'=>∃ mb,e=.returned (.map (some mb))∧ym s w' mb∧Bel w w':=by
 have HL:=uh h;have HS:=uh hs;have HA:=uh ha;obtain⟨va,vc,ev⟩:=h.aT;subst ev;clear h hs ha;obtain⟨n,hn⟩:∃ n,n=s.length:=⟨_,rfl⟩
 have HN:=uh hn;have gF:s.length=n:=hn.symm;clear hn;rw[gF];clear gF;obtain⟨wa,aP⟩:∃ wa,wa=w.alloc (.map #[] 0):=⟨_,rfl⟩
 obtain⟨mb,Lw⟩:∃ mb,mb=w.heap.size:=⟨_,rfl⟩
 have HB:Hid (Bel w wa):=by show Below _ _ _;rw[aP];exact af zR _
 have HM:Hid (wa.heap[mb]? =some (.map (kp s 0) 0)):=by
  show _=_;rw[aP,Lw];exact heap_alloc_new w _
 have HZM:Hid (w.heap.size≤mb):=by show _≤_;rw[Lw];exact zE
 have pJ:∀ W:World,(Instr.makeMap 144 none).run Tryz.prog W=.ok (.map (some W.heap.size)) (W.alloc (.map #[] 0)):=fun W=>by kernel_rfl
 go_enter Tryz.func75,Tryz.ntmps75
 go_upto_region 2 with fail
 rw[← aP,← Lw];clear aP pJ Lw;go_wp2;go_loopw [9] (fun i wr=>∃ q:Nat,q≤n∧i=.int .i64 q∧Bel w wr∧wr.heap[mb]? =some (.map (kp s q) q)) (fun i _=>n - (intOf i).toNat)
 case atStart=>exact⟨0,zN,rfl,HB.out,HM.out⟩
 case round=>
  obtain⟨q,hq,rfl,hW,hM2⟩:=hrel;have eM:=uh hW;have gT:=uh hM2;clear hW hM2 HM;by_cases bq:q<n
  rotate_left
  ·obtain rfl:q=n:=by omega
   have tB:¬ ((q:Int)<(q:Int)):=by omega
   have Jv:Hid (ym s wr mb):=by show _=_;rw[← HN.out];exact gT.out
   go_wp2;go_ret;exact⟨mb,rfl,Jv.out,eM.out⟩
  have kz:q<s.length:=by have:=HN.out;omega
  rcases cN (HL.out.later eM.out) with⟨e0,_⟩|⟨p,o,c,hv,hp,dR,aE⟩
  ·omega
  rw[← HN.out]at hv dR;injection hv with g1 _ g3
  subst g1;subst g3;unfold maxLen at dR;obtain⟨ax,cx,dm,_⟩:=aE q kz;have jQ:=uh (HS.out q kz);have VQ:Hid (hdK s q=hk (s.getD q Pl.aG).kind (s.getD q Pl.aG).name):=rfl;obtain⟨x,hx⟩:∃ x,x=s.getD q Pl.aG:=⟨_,rfl⟩
  rw[← hx]at dm jQ VQ;obtain⟨w1,gB⟩:∃ z,z=wr.alloc (.cells #[.string x.kind,.string x.name,.slice ax x.lines.length cx] 58):=⟨_,rfl⟩
  have cr:Bel wr w1:=by rw[gB];exact af zR _
  obtain⟨z0,dp⟩:∃ z,z=wr.heap.size:=⟨_,rfl⟩
  have qs:Hid (au w1 z0 [.string x.kind,.string x.name,.slice ax x.lines.length cx]):=by show au _ _ _;rw[gB];exact au.new _ #[.string x.kind,.string x.name,.slice ax x.lines.length cx] _ _ dp
  have qt:Hid (mb<wr.heap.size):=(Xh.1 gT.out).1;have Jv:Hid (w1.heap[mb]? =some (.map (kp s q) q)):=(cr.block _ qt.out).trans gT.out;have pG:=uh (ae eM.out cr);have JA:=uh (mY x.kind x.name (.slice ax x.lines.length cx) w1);have cZ:(0:Int)≤(q:Int):=by omega
  have dy:(q:Int)<(n:Int):=by omega
  clear hx aE hp cr;go_upto_region 5 with(refine wpList_load_mid rfl 58 _ rfl p (o+q*3) rfl [.string x.kind,.string x.name,.slice ax x.lines.length cx] _ dm Tryz.underlying58 rfl (by kernel_rfl) ?_)
  rw[← gB,← dp];clear gB dp dm;have xa:=qs.out.at_;have xl:=qs.out.lt;go_wp2_with (refine wpList_load_mid rfl 58 _ rfl z0 0 rfl [.string x.kind,.string x.name,.slice ax x.lines.length cx] _ xa Tryz.underlying58 rfl (by kernel_rfl) ?_)
  refine JA.out.mono ?_;rintro e w2 ⟨rfl,dD⟩;have U5:Hid (mb<w1.heap.size):=(Xh.1 Jv.out).1;have HM4:Hid (w2.heap[mb]? =some (.map (kp s q) q)):=(dD.block _ U5.out).trans Jv.out;have K3:=uh (ae pG.out dD);have Wg:Hid (mb<w2.heap.size):=(Xh.1 HM4.out).1;have sN:(Instr.mapUpdate 144 (.map (some mb)) (.agg #[.string x.kind,.string x.name]) (.int .i64 (q:Int))).run Tryz.prog w2=.ok () (pO w2 mb (.map (kp s (q+1)) (q+1))):=by
   have e:=ND (kp s q) q mb w2 x.kind x.name (.int .i64 (q:Int)) jQ.out.1 jQ.out.2 HM4.out (by
    rcases Bu s q w2 x.kind x.name jQ.out.1 jQ.out.2 (by omega) HS.out with h|⟨i,hi,_,he⟩
    ·exact h.1
    ·obtain⟨q1,q2⟩:=Hh (he.trans VQ.out.symm);exact absurd (HA.out i q (by omega) kz q1 q2) (by omega))
   rw[← Cz,VQ.out];exact e
  clear dD xa xl JA;go_wp2;go_roundw
  case rel=>exact⟨q+1,by omega,by go_num,Below.pO K3.out HZM.out _,Kf _ Wg.out⟩
  case measure=>simp[intOf];omega
theorem Tryz.pf:Tryz.prog.underlying 104=some (.slice 107):=by kernel_rfl
theorem Tryz.C8:(Tryz.prog.info? 107).map (fun i=>(i.zero,i.size,i.bytes))=some (some .nilIface,1,16):=by kernel_rfl
theorem yF:(41:Nat)≠107:=by decide
inductive EdV (B W:World):Pl.Ch→Value→Prop
 |gone (k n:ByteArray):EdV B W ⟨1,k,n,Pl.aJ,[]⟩ (.iface 151 (.agg #[.string k,.string n]))
 |new (k n:ByteArray) (l:List Pl.Ln) (a:Option Addr) (c:Nat) (h:Raw B aV [bD l] [.slice a l.length c]):EdV B W ⟨2,k,n,Pl.aJ,l⟩ (.iface 154 (.agg #[.string k,.string n,.slice a l.length c]))
 |set (k n key:ByteArray) (l:List Pl.Ln) (a:Option Addr) (c:Nat) (xs:List Value) (h:W.ownsRow 0 41 2 (.slice a l.length c) l.length xs) (hr:Raw B (bF l.length ao) (l.flatMap lnD) xs):EdV B W ⟨3,k,n,key,l⟩ (.iface 189 (.agg #[.string k,.string n,.string key,.slice a l.length c]))
 |unset (k n key:ByteArray):EdV B W ⟨4,k,n,key,[]⟩ (.iface 187 (.agg #[.string k,.string n,.string key]))
theorem ly {W:World} {lo lo':Nat} {e:TypeId} {size n:Nat} {v:Value} {xs:List Value} (h:W.ownsRow lo e size v n xs) (hl:lo'≤lo):W.ownsRow lo' e size v n xs:=
 ⟨h.1,h.2.imp id fun ⟨g,cap,cur,h1,h2,h3⟩=>⟨g,cap,cur,h1,Xg hl h2,h3⟩⟩
theorem EdV.later {B W W':World} {c:Pl.Ch} {u:Value} (h:EdV B W c u) (hb:Bel W W'):EdV B W' c u:=by
 cases h with
 |gone k n=>exact .gone k n
 |new k n l a c h=>exact .new k n l a c h
 |set k n key l a c xs h hr=>exact .set k n key l a c xs (cD h hb) hr
 |unset k n key=>exact .unset k n key
theorem EdV.frm {B W W':World} {S:Nat→Prop} {c:Pl.Ch} {u:Value} (h:EdV B W c u) (hb:Frm S W W') (hS:∀ g,S g→∃ cur o,W.heap[g]? =some (.cells cur 107 o)):EdV B W' c u:=by
 cases h with
 |gone k n=>exact .gone k n
 |new k n l a c h=>exact .new k n l a c h
 |set k n key l a c xs h hr=>
  refine .set k n key l a c xs (bT h hb fun g hg hs=> ?_) hr;obtain⟨_,cur,h1⟩:=cC h hg;obtain⟨cR,o,h2⟩:=hS g hs;rw[h1]at h2;injection h2 with h2
  injection h2 with _ h2
  exact yF h2
 |unset k n key=>exact .unset k n key
theorem EdV.one {B W:World} {c:Pl.Ch} {u:Value} (h:EdV B W c u):u.oneCell'=true:=by cases h<;>rfl
structure EdR (B:World) (lo:Nat) (W:World) (v:Value) (l:List Pl.Ch) (xs:List Value):Prop where
 row:W.ownsRow lo 107 1 v l.length xs
 len:xs.length=l.length
 els:∀ i,i<l.length→EdV B W (l.getD i Pl.ie) (xs.getD i .nilIface)
theorem EdR.nil (B:World) (lo:Nat) (W:World):EdR B lo W (.slice none 0 0) [] []:=⟨⟨by simp,No ⟨rfl,rfl⟩⟩,rfl,fun i h=>by simp at h⟩
theorem EdR.later {B W W':World} {lo:Nat} {v:Value} {l:List Pl.Ch} {xs:List Value} (h:EdR B lo W v l xs) (hb:Bel W W'):EdR B lo W' v l xs:=⟨cD h.row hb,h.len,fun i hi=>(h.els i hi).later hb⟩
theorem EdR.NH {B W:World} {lo lo':Nat} {v:Value} {l:List Pl.Ch} {xs:List Value} (h:EdR B lo W v l xs) (hl:lo'≤lo):EdR B lo' W v l xs:=⟨ly h.row hl,h.len,h.els⟩
theorem EdR.shape {B W:World} {lo:Nat} {v:Value} {l:List Pl.Ch} {xs:List Value} (h:EdR B lo W v l xs):∃ a c,v=.slice a l.length c:=by
 rcases h.row.2 with⟨e,e0⟩|⟨_,_,_,e,_⟩
 ·exact⟨_,_,by rw[e,e0]⟩
 ·exact⟨_,_,e⟩
structure EdS (B W:World) (s:Value) (m:List Pl.Ch) (ys:List Value):Prop where
 len:ys.length=m.length
 els:∀ i,i<m.length→EdV B W (m.getD i Pl.ie) (ys.getD i .nilIface)
 at_:(m.length=0∧s=.slice none 0 0)∨∃ p o c,s=.slice (some ⟨p,o,none⟩) m.length c∧p<W.heap.size∧∀ j u,ys[j]? =some u→W.cell? ⟨p,o+j,none⟩=some u
theorem EdR.src {B W:World} {lo:Nat} {v:Value} {l:List Pl.Ch} {xs:List Value} (h:EdR B lo W v l xs):EdS B W v l xs:=by
 refine⟨h.len,h.els, ?_⟩;rcases h.row.2 with⟨e,e0⟩|⟨g,cap,cur,e1,h1,h2,h3,h4,h5,h6⟩
 ·exact No ⟨e0,e⟩
 ·refine Xk ⟨g,0,cap,e1,rC h2,fun j u hj=> ?_⟩;rw[Xr];rw[← h6,XO]at hj;simp only[World.cell?,h2];split at hj
  ·simpa using hj
  ·cases hj
theorem EdS.one {B W:World} {c:Pl.Ch} {u:Value} (h:EdV B W c u) (t:TypeId):EdS B (W.alloc (.cells #[u] t)) (.slice (some ⟨W.heap.size,0,none⟩) 1 1) [c] [u]:=by
 refine⟨rfl,fun i hi=> ?_,Xk ⟨W.heap.size,0,1,rfl,by simp,fun j x hj=> ?_⟩⟩
 ·obtain rfl:i=0:=by simpa using hi
  exact h.later (af zR _)
 ·have:=(au.new W #[u] t _ rfl).at_ j x (by simpa using hj);exact this
theorem rj {B W:World} {lo:Nat} {v s:Value} {l m:List Pl.Ch} {xs ys:List Value} (ty:TypeId) (h:EdR B lo W v l xs) (hs:EdS B W s m ys) (cX:lo≤W.heap.size) (hn:l.length+m.length≤1000000000):
  ∃ a c W',(Builtin.append_ #[104,104] ty #[v,s]).run Tryz.prog W=.ok (.slice a (l.length+m.length) c) W'∧EdR B lo W' (.slice a (l.length+m.length) c) (l++m) (xs++ys)∧W.grownBy W' v.ownBlock:=by
 obtain⟨i,hi,ei⟩:=XH.1 Tryz.C8;simp only[Prod.mk.injEq]at ei;obtain⟨hz,kj,eS⟩:=ei;have DU:l.length+m.length≤maxLen:=by unfold maxLen;omega
 have dG:(l.length+m.length)*16≤140737488355328:=by omega
 have key:∀ (u:Value) (W':World),W'.ownsRow lo 107 1 u (l.length+m.length) (xs++ys)→W.grownBy W' v.ownBlock→EdR B lo W' u (l++m) (xs++ys):=by
  intro u W' dN hg;have k9:Frm (fun p=>v.ownBlock=some p) W W':=Frm.xS hg fun p hp=>hp;have hS:∀ g,v.ownBlock=some g→∃ cur o,W.heap[g]? =some (.cells cur 107 o):=fun g hg=>by obtain⟨_,cur,q⟩:=cC h.row hg;exact⟨cur,_,q⟩
  refine⟨by rw[At];exact dN,by rw[At,At,h.len,hs.len],fun j hj=> ?_⟩;rw[At]at hj;by_cases wH:j<l.length
  ·rw[pD _ wH,pD _ (by rw[h.len];exact wH)];exact(h.els j wH).frm k9 hS
  ·rw[pA _ (by omega),pA _ (by rw[h.len];omega),h.len];exact(hs.els _ (by omega)).frm k9 hS
 have shp:∀ (u:Value) (W':World),EdR B lo W' u (l++m) (xs++ys)→∃ a c,u=.slice a (l.length+m.length) c:=fun u W' q=>by obtain⟨a,c,e⟩:=q.shape;exact⟨a,c,by rw[e,At]⟩
 rcases hs.at_ with⟨h0,rfl⟩|⟨p,o,c,rfl,hp,hc⟩
 ·have hy:ys=[]:=Xs (by rw[hs.len];exact h0);have bC:=run_append_owned_none (P:=Tryz.prog) (w:=W) lo 104 ty 107 i 1 Tryz.pf hi v l.length xs h.row;have hg:W.grownBy W v.ownBlock:=⟨rfl,rfl,rfl,zE,fun _ _ _=>rfl⟩
  have hk:=key v W (by rw[h0,hy,Nat.add_zero,Xl];exact h.row) hg;obtain⟨a,c,e⟩:=shp v W hk;subst e;exact⟨a,c,W,bC,hk,hg⟩
 ·obtain⟨u,W',bC,h2,h3,_,h5⟩:=run_append_own_at (P:=Tryz.prog) W lo 104 ty 107 i .nilIface 1 16 Tryz.pf hi hz kj eS rfl (by decide) v l.length xs h.row ⟨p,o,none⟩ m.length c ys (by rw[hs.len,Nat.mul_one]) (fun j x hj=>by rw[Addr.add_mid];exact hc j x hj) (fun x hx=>by
   obtain⟨j,hj,rfl⟩:=XZ hx;have:=hs.els j (by rw[← hs.len];exact hj);have e:ys.getD j .nilIface=ys[j]:=by simp[hj]
   rw[e]at this;exact this.one) DU dG cX
  have hk:=key u W' h2 h3;obtain⟨a,c,e⟩:=shp u W' hk;subst e;exact⟨a,c,W',bC,hk,h3⟩
theorem EdR.below {B X W W':World} {lo:Nat} {v:Value} {l:List Pl.Ch} {xs:List Value} (h:EdR B lo W v l xs) (hb:Bel X W) (hg:W.grownBy W' v.ownBlock) (hl:X.heap.size≤lo):Bel X W':=
 dF hb hg fun _ hb=>Xg hl (aW h.row hb).1
theorem zQ {B W:World} {lo:Nat} {l:List Pl.Ln} {v:Value} {xs:List Value} (h:W.ownsRow lo 41 2 v l.length xs) (hr:Raw B (bF l.length ao) (l.flatMap lnD) xs) (hb:Bel B W):Raw W aV [bD l] [v]:=by
 rcases h.2 with⟨rfl,h0⟩|⟨g,cap,cur,rfl,q2,q3,q4,q5,q6,q7⟩
 ·have hl:l=[]:=Xs h0;subst hl;exact .emp _ _ none 0 .nil
 ·refine .row 41 ao g 0 l.length cap xs (l.flatMap lnD) (Xh.1 q3).1 ⟨Xg q4 q5,q4⟩ ?_ (hr.later hb) .nil;intro j x hx;rw[← q7]at hx;have hl:j<l.length*2:=by have:=(Xn.1 hx).1;rw[Xo]at this;omega
  rw[XM hl]at hx;rw[Xr];simp only[World.cell?,q3];simpa using hx
def VJe (w0:World) (b0:Nat) (z0:Nat) (lo:Nat) (xc:Nat) (yc:Nat) (xa:Option Addr) (ya:Option Addr) (x:Pl.Bl) (y:Pl.Bl) (m1:List Pl.Ln) (m2:List Pl.Ln):Nat→Value→World→Prop
 |0,vv,_=>vv=.pointer (some ⟨(b0+1),2,none⟩)
 |1,vv,_=>vv=.slice xa x.lines.length xc
 |2,vv,_|6,vv,_=>vv=.func (.func 102) #[] #[.pointer (some ⟨z0,0,none⟩)]
 |3,vv,W|8,vv,W=>∃ y1 y2 xs,vv=.slice y1 m1.length y2∧W.ownsRow lo 41 2 (.slice y1 m1.length y2) m1.length xs∧Raw w0 (bF m1.length ao) (m1.flatMap lnD) xs
 |4,vv,_=>vv=.pointer (some ⟨(b0+2),2,none⟩)
 |5,vv,_=>vv=.slice ya y.lines.length yc
 |7,vv,W|9,vv,W=>∃ y1 y2 xs,vv=.slice y1 m2.length y2∧W.ownsRow lo 41 2 (.slice y1 m2.length y2) m2.length xs∧Raw w0 (bF m2.length ao) (m2.flatMap lnD) xs
 |_,_,_=>True
theorem GI (w0:World) (b0:Nat) (z0:Nat) (lo:Nat) (xc:Nat) (yc:Nat) (xa:Option Addr) (ya:Option Addr) (x:Pl.Bl) (y:Pl.Bl) (m1:List Pl.Ln) (m2:List Pl.Ln):∀ jj vv W W',Bel W W'→VJe w0 b0 z0 lo xc yc xa ya x y m1 m2 jj vv W→VJe w0 b0 z0 lo xc yc xa ya x y m1 m2 jj vv W':=by
 intro jj vv W W' hb h;match jj with
 |0|1|2|4|5|6=>exact h
 |3|7|8|9=>
  obtain⟨y1,y2,xs,h1,h2,h3⟩:=h;exact⟨y1,y2,xs,h1,cD h2 hb,h3⟩
 |n+10=>exact trivial
theorem rR {W:World} {lo:Nat} {t:TypeId} {s n:Nat} {v:Value} {xs:List Value} (h:W.ownsRow lo t s v n xs):∃ a c,v=.slice a n c:=by
 rcases h.2 with⟨e,e0⟩|⟨_,_,_,e,_⟩
 ·exact⟨_,_,by rw[e,e0]⟩
 ·exact⟨_,_,e⟩
def l8 (x y:Pl.Bl) (rs:List Pl.Ru) (k:Nat):List Pl.Ch:=(rs.take k).flatMap (Pl.dh x y)
theorem tE {x y:Pl.Bl} {rs:List Pl.Ru} {k:Nat} (hk:k<rs.length):l8 x y rs (k+1)=l8 x y rs k++Pl.dh x y (rs.getD k Pl.bu):=by
 unfold l8;rw[Pl.cp Pl.bu rs k hk,Xv,XE]
theorem qE (x y:Pl.Bl) (rs:List Pl.Ru):∀ k,(l8 x y rs k).length≤k
 |0=>by simp[l8]
 |k+1=>by
  by_cases h:k<rs.length
  ·rw[tE h,At];have:=qE x y rs k;have:=n9 x y (rs.getD k Pl.bu);omega
  ·have e:l8 x y rs (k+1)=l8 x y rs k:=by unfold l8;rw[Xp (by omega),Xp (by omega)]
   rw[e];have:=qE x y rs k;omega
theorem MW (x y:Pl.Bl) (ra xa ya:Option Addr) (rc xc yc:Nat) (w0 w:World) (aU:Bel w0 w) (hr:Raw w [.row 75 aB] [bV (Pl.ah x.kind)] [.slice ra (Pl.ah x.kind).length rc]) (hx:Raw w0 aV [bD x.lines] [.slice xa x.lines.length xc]) (hy:Raw w0 aV [bD y.lines] [.slice ya y.lines.length yc]) (hk:x.kind=y.kind) (hn:x.name=y.name) (hlx:x.lines.length≤4194304) (hly:y.lines.length≤4194304):
  Calls Tryz.prog 77 #[.agg #[.slice ra (Pl.ah x.kind).length rc],.agg #[.string x.kind,.string x.name,.slice xa x.lines.length xc],.agg #[.string y.kind,.string y.name,.slice ya y.lines.length yc]] w fun e w'=>∃ v xs,e=.returned v∧EdR w0 w.heap.size w' v (Pl.fJ x y) xs∧Bel w w':=by
 have HX:=uh hx;have HY:=uh hy;have Mt:=uh (Xt hlx hly);have HR:=uh hr;have dX:=uh aU;have jm:=uh (ey x.kind);have sj:Hid (Pl.fJ x y=(Pl.ah x.kind).flatMap (Pl.dh x y)):=rfl;have HKP:=uh (fun r=>Gk (Pl.ah x.kind) x y r hk hn);obtain⟨rs,y4⟩:∃ rs,rs=Pl.ah x.kind:=⟨_,rfl⟩
 rw[← y4]at HR jm sj HKP;rw[← y4];clear hx hy hlx hly hr aU y4 hk hn;obtain⟨n,hn⟩:∃ n,n=rs.length:=⟨_,rfl⟩
 have HN:=uh hn;have e1:rs.length=n:=hn.symm;clear hn;rw[e1];clear e1;have hn12:n≤12:=by have:=HN.out;have:=jm.out;omega
 obtain⟨b0,aU⟩:∃ b,b=w.heap.size:=⟨_,rfl⟩
 obtain⟨wa,aP⟩:∃ wa,wa=((w.alloc (.cells #[.slice ra n rc] 141)).alloc (.cells #[.string x.kind,.string x.name,.slice xa x.lines.length xc] 58)).alloc (.cells #[.string y.kind,.string y.name,.slice ya y.lines.length yc] 58):=⟨_,rfl⟩
 have HB:Hid (Bel w wa):=by show Below _ _ _;rw[aP];exact af (af (af zR _) _) _
 have Iq:Hid (au wa b0 [.slice ra n rc]):=by show au _ _ _;rw[aP,aU];exact((au.new w #[.slice ra n rc] _ _ rfl).eO _).eO _
 have SR:Hid (au wa (b0+1) [.string x.kind,.string x.name,.slice xa x.lines.length xc]):=by show au _ _ _;rw[aP];exact(au.new _ #[.string x.kind,.string x.name,.slice xa x.lines.length xc] _ _ (by simp[aU])).eO _
 have Lb:Hid (au wa (b0+2) [.string y.kind,.string y.name,.slice ya y.lines.length yc]):=by show au _ _ _;rw[aP];exact au.new _ #[.string y.kind,.string y.name,.slice ya y.lines.length yc] _ _ (by simp[aU])
 have HZ:=uh aU;have JA:=uh (mY y.kind y.name (.slice ya y.lines.length yc) wa);go_enter Tryz.func77,Tryz.ntmps77
 go_upto_region 1 with fail
 rw[← aP,← aU];clear aP aU;have ya0:=Lb.out.at_;have yl0:=Lb.out.lt;go_wp2_with (refine wpList_load_mid rfl 58 _ rfl (b0+2) 0 rfl [.string y.kind,.string y.name,.slice ya y.lines.length yc] _ ya0 Tryz.underlying58 rfl (by kernel_rfl) ?_)
 refine JA.out.mono ?_;rintro e w1 ⟨rfl,cr⟩;obtain⟨w2,fw⟩:∃ z,z=w1.alloc (.cells #[.string y.kind,.string y.name] 148):=⟨_,rfl⟩
 have dD:Bel w1 w2:=by rw[fw];exact af zR _
 obtain⟨bh,WR⟩:∃ z,z=w1.heap.size:=⟨_,rfl⟩
 have V4:Hid (au w2 bh [.string y.kind,.string y.name]):=by show au _ _ _;rw[fw];exact au.new _ #[.string y.kind,.string y.name] _ _ WR
 have eM:=uh (ae HB.out (ae cr dD));have Jc:=uh (Iq.out.later (ae cr dD));have WM:=uh (SR.out.later (ae cr dD));have Vo:=uh (Lb.out.later (ae cr dD));clear cr dD ya0 yl0 Iq SR Lb JA;go_upto_region 2 with fail
 rw[← fw,← WR];clear fw WR;have Ay:=uh (EdR.nil w0 w2.heap.size w2);have k0:=Jc.out.get 0 _ rfl;have kl:=Jc.out.lt;go_wp2;clear k0 kl;go_loopw [9,21] (fun vo vi wr=>∃ (q:Nat) (xs:List Value),q≤n∧vi=.int .i64 q∧EdR w0 w2.heap.size wr vo (l8 x y rs q) xs∧Bel w2 wr) (fun _ vi _=>n - (intOf vi).toNat)
 case atStart=>exact⟨0,[],zN,rfl,Ay.out,zR⟩
 case round=>
  obtain⟨q,xs,hq,rfl,hE,hB⟩:=hrel;have HE:=uh hE;have cB:=uh hB;obtain⟨ua,uc,sD⟩:=hE.shape;subst sD;clear hE hB Ay;by_cases bq:q<n
  rotate_left
  ·have jq:l8 x y rs q=Pl.fJ x y:=by unfold l8;rw[sj.out,Xp (by have:=HN.out;omega)]
   obtain⟨dd,lZ⟩:∃ z,z=l8 x y rs q:=⟨_,rfl⟩
   rw[← lZ]at HE jq ⊢;have HD:Hid (EdR w0 w.heap.size wr (.slice ua dd.length uc) (Pl.fJ x y) xs):=by rw[← jq];exact HE.out.NH eM.out.size
   clear lZ jq HE;go_wp2;go_ret;exact⟨_,xs,rfl,HD.out,ae eM.out cB.out⟩
  have kz:q<rs.length:=by have:=HN.out;omega
  obtain⟨p,o,c,a1,c1,v3,hv,hp,dm,_,wC⟩:=gD (HR.out.later (ae eM.out cB.out)) kz;obtain⟨a3,c3,e3⟩:=wC.aT;subst e3;clear wC;rw[← HN.out]at hv;injection hv with g1 _ g3
  subst g1;subst g3;have eU:=uh (tE (x:=x) (y:=y) kz);have Mi:=uh (HKP.out (rs.getD q Pl.bu));obtain⟨r,D7⟩:∃ z,z=rs.getD q Pl.bu:=⟨_,rfl⟩
  rw[← D7]at dm eU Mi;have TS:(l8 x y rs q).length≤12:=by have:=qE x y rs q;omega
  obtain⟨ac0,sA⟩:∃ z,z=l8 x y rs q:=⟨_,rfl⟩
  rw[← sA]at HE eU TS ⊢;obtain⟨an,Ev⟩:∃ z,z=ac0.length:=⟨_,rfl⟩
  rw[← Ev]at HE TS ⊢;have JR:=uh Ev;have OF:Hid (ac0.length≤12):=by show _≤_;rw[← Ev];exact TS
  have cZ:(0:Int)≤(q:Int):=by omega
  have dy:(q:Int)<(n:Int):=by omega
  obtain⟨w5,B5⟩:∃ z,z=wr.alloc (.cells #[.string r.key,.slice a1 r.args.length c1,.bool r.many,.slice a3 r.dflt.length c3] 75):=⟨_,rfl⟩
  have oZ:Bel wr w5:=by rw[B5];exact af zR _
  obtain⟨z0,dp⟩:∃ z,z=wr.heap.size:=⟨_,rfl⟩
  have wO:Hid (au w5 z0 [.string r.key,.slice a1 r.args.length c1,.bool r.many,.slice a3 r.dflt.length c3]):=by show au _ _ _;rw[B5];exact au.new _ #[.string r.key,.slice a1 r.args.length c1,.bool r.many,.slice a3 r.dflt.length c3] _ _ dp
  have uT:=uh (ae cB.out oZ);have HE5:=uh (HE.out.later oZ);have qs:=uh (WM.out.later uT.out);have uM:=uh (Vo.out.later uT.out);clear D7 sA Ev hp oZ TS HE;go_upto_region 7 with(refine wpList_load_mid rfl 75 _ rfl p (o+q*4) rfl [.string r.key,.slice a1 r.args.length c1,.bool r.many,.slice a3 r.dflt.length c3] _ dm Tryz.underlying75 rfl (by kernel_rfl) ?_)
  rw[← B5,← dp];clear B5 dp dm;have La:=uh (ae eM.out uT.out);obtain⟨m1,lO⟩:∃ z,z=Pl.aO x.lines r.key:=⟨_,rfl⟩
  obtain⟨m2,Pd⟩:∃ z,z=Pl.aO y.lines r.key:=⟨_,rfl⟩
  have LP:Hid (∀ X,Bel w5 X→Calls Tryz.prog 103 #[.slice xa x.lines.length xc,.func (.func 102) #[] #[.pointer (some ⟨z0,0,none⟩)]] X (Kk w0 X m1)):=fun X hX=>by
   rw[lO];exact tR x.lines (fun t=>t.key.toList==r.key.toList) (.slice xa x.lines.length xc) z0 X w0 (ae dX.out (ae La.out hX)) HX.out Mt.out.1 (fun t aw cw Z _ hZ _=>BE t.key r.key _ z0 Z ((wO.out.later (ae hX hZ)).get 0 _ rfl) (wO.out.later (ae hX hZ)).lt)
  have Jt:Hid (∀ X,Bel w5 X→Calls Tryz.prog 103 #[.slice ya y.lines.length yc,.func (.func 102) #[] #[.pointer (some ⟨z0,0,none⟩)]] X (Kk w0 X m2)):=fun X hX=>by
   rw[Pd];exact tR y.lines (fun t=>t.key.toList==r.key.toList) (.slice ya y.lines.length yc) z0 X w0 (ae dX.out (ae La.out hX)) HY.out Mt.out.2 (fun t aw cw Z _ hZ _=>BE t.key r.key _ z0 Z ((wO.out.later (ae hX hZ)).get 0 _ rfl) (wO.out.later (ae hX hZ)).lt)
  rw[← lO,← Pd]at Mi;clear lO Pd;go_upto_region 8 with fail
  refine RY.bs w5 zR (VJe w0 b0 z0 w5.heap.size xc yc xa ya x y m1 m2) (GI _ _ _ _ _ _ _ _ _ _ _ _) (by kernel_rfl) (by kernel_rfl) (by kernel_rfl) (by kernel_rfl) ?_ ?_
  ·intro ii o' ho a X hX hk hd;have z_b0___1_:=qs.out.later hX;have z_b0___1_l:=z_b0___1_.lt;have z_b0___2_:=uM.out.later hX;have z_b0___2_l:=z_b0___2_.lt;match ii,ho with
   |0,rfl=>
    exact RY.p (.pointer (some ⟨(b0+1),2,none⟩)) (by simp[execOp,go_sem,RY.K hk 4 (.pointer (some ⟨(b0+1),0,none⟩))])
   |1,rfl=>
    have e26:=RY.E hd 0 26;have ycl_:=z_b0___1_.get 2 _ rfl;exact RY.p (.slice xa x.lines.length xc) (by simp[execOp,go_sem,e26,ycl_])
   |2,rfl|6,rfl=>
    exact RY.p (.func (.func 102) #[] #[.pointer (some ⟨z0,0,none⟩)]) (by simp[execOp,go_sem,RY.K hk 12 (.func (.func 102) #[] #[.pointer (some ⟨z0,0,none⟩)])])
   |3,rfl=>
    have e27:=RY.E hd 1 27;have e28:=RY.E hd 2 28;refine Xk ⟨103,#[.slice xa x.lines.length xc,.func (.func 102) #[] #[.pointer (some ⟨z0,0,none⟩)]],by simp[go_sem,e27,e28],(LP.out X hX).mono ?_⟩;rintro e W' ⟨v,xs,rfl,dN,Ok,hb⟩;obtain⟨x1,x2,hx⟩:=rR dN;subst hx;exact⟨_,rfl,hb,x1,x2,xs,rfl,ly dN hX.size,Ok⟩
   |4,rfl=>
    exact RY.p (.pointer (some ⟨(b0+2),2,none⟩)) (by simp[execOp,go_sem,RY.K hk 5 (.pointer (some ⟨(b0+2),0,none⟩))])
   |5,rfl=>
    have e30:=RY.E hd 4 30;have ycl_:=z_b0___2_.get 2 _ rfl;exact RY.p (.slice ya y.lines.length yc) (by simp[execOp,go_sem,e30,ycl_])
   |7,rfl=>
    have e31:=RY.E hd 5 31;have e32:=RY.E hd 6 32;refine Xk ⟨103,#[.slice ya y.lines.length yc,.func (.func 102) #[] #[.pointer (some ⟨z0,0,none⟩)]],by simp[go_sem,e31,e32],(Jt.out X hX).mono ?_⟩;rintro e W' ⟨v,xs,rfl,dN,Ok,hb⟩;obtain⟨x1,x2,hx⟩:=rR dN;subst hx;exact⟨_,rfl,hb,x1,x2,xs,rfl,ly dN hX.size,Ok⟩
   |8,rfl=>
    obtain⟨y1,y2,xs29,q29,U1,Vt⟩:=hd 3 _ 29 rfl rfl ⟨⟨3,.data⟩,by simp,rfl,rfl⟩;have e29:a.tmps[29]?.getD undef=.slice y1 m1.length y2:=(RY.ai a 29).trans q29;exact No ⟨_,X,by simp[execOp,go_sem,e29],zR,y1,y2,xs29,rfl,U1,Vt⟩
   |9,rfl=>
    obtain⟨y1,y2,xs33,q33,Ue,V1⟩:=hd 7 _ 33 rfl rfl ⟨⟨7,.data⟩,by simp,rfl,rfl⟩;have e33:a.tmps[33]?.getD undef=.slice y1 m2.length y2:=(RY.ai a 33).trans q33;exact No ⟨_,X,by simp[execOp,go_sem,e33],zR,y1,y2,xs33,rfl,Ue,V1⟩
   |n+10,ho=>simp at ho
  intro X vs hX bn;obtain⟨wa1,MG,xs1,q13,Tq,Lk⟩:=bn 8 _ 13 rfl rfl;obtain⟨Pm,JO,xs2,q14,OB,mR⟩:=bn 9 _ 14 rfl rfl;simp only[RY.aC,Act.put,so,As,An];generalize vs 26=s26,vs 27=s27,vs 28=s28,vs 29=s29,vs 30=s30,vs 31=sL,vs 32=pS,vs 33=pY;rw[q13];rw[q14];clear bn;obtain⟨W5,My⟩:∃ z,z=X:=⟨_,rfl⟩
  rw[← My]at hX Tq OB ⊢;have Eb:=uh (ae uT.out hX);have AU:=uh (Xt Tq Lk);have fy:=uh (Xt OB mR);have Sd:=uh (HE5.out.later hX);have S4:=uh (wO.out.later hX);have PV:=uh (ae dX.out (ae eM.out Eb.out));have Lr:=uh (Kt m1 m2 (.slice wa1 m1.length MG) (.slice Pm m2.length JO) b0 (fun x y=>cQ rs x y==0) W5 (zQ Tq Lk PV.out) (zQ OB mR PV.out) (fun x y ax ay cx cy Z hZ h1 h2=>zC rs _ _ x y ax ay cx cy b0 Z (by rw[← HN.out];exact(Jc.out.later Eb.out).later hZ) (by have:=jm.out;omega) (by exact HR.out.later (ae (ae eM.out Eb.out) hZ)) h1 h2));obtain⟨eb,heb⟩:∃ z,z=Pl.eqL (fun x y=>cQ rs x y==0) m1 m2:=⟨_,rfl⟩
  rw[← heb]at Lr Mi;clear My hX Tq OB Lk mR heb q13 q14 HE5 wO LP Jt qs uM;go_wp2_with fail
  refine Lr.out.mono ?_;rintro e W6 ⟨rfl,lM⟩;have AK:Hid (Bel w W6):=ae eM.out (ae Eb.out lM);have S2:=uh (Sd.out.later lM);have LO:=uh (S4.out.later lM);have Lp:=uh ((V4.out.later Eb.out).later lM);have HO6:=uh (cD fy.out.1 lM);have IQ:=uh (ae Eb.out lM);clear lM Lr Sd S4 AU;cases eb
  rotate_left
  ·have Ei:Hid (Pl.dh x y r=[]):=by show _=_;rw[Mi.out];rfl
   have VE:Hid (EdR w0 w2.heap.size W6 (.slice ua an uc) (l8 x y rs (q+1)) xs):=by show EdR _ _ _ _ _ _;rw[eU.out,Ei.out,Xl];exact S2.out
   go_wp2;go_roundw
   case rel=>exact⟨q+1,xs,by omega,by go_num,VE.out,IQ.out⟩
   case measure=>simp[intOf];omega
  replace Mi:Hid (Pl.dh x y r=[⟨if m2.length=0 then 4 else 3,y.kind,y.name,r.key,m2⟩]):=by show _=_;rw[Mi.out];rfl
  have V7:=fy.out.2;obtain⟨mn,mL⟩:∃ z,z=m2.length:=⟨_,rfl⟩
  rw[← mL];have Tk:=uh mL;clear mL;have hmn6:mn≤4194304∨True:=Xk trivial;by_cases h0:mn=0
  ·subst h0;have lG:m2=[]:=Xs Tk.out.symm;have Ei:Hid (Pl.dh x y r=[⟨4,y.kind,y.name,r.key,m2⟩]):=by show _=_;rw[Mi.out,if_pos Tk.out.symm]
   have HU:Hid (EdV w0 W6 ⟨4,y.kind,y.name,r.key,m2⟩ (.iface 187 (.agg #[.string y.kind,.string y.name,.string r.key]))):=by show EdV _ _ _ _;rw[lG];exact .unset _ _ _
   obtain⟨wb,fa⟩:∃ z,z=W6.alloc (.cells #[.iface 187 (.agg #[.string y.kind,.string y.name,.string r.key])] 107):=⟨_,rfl⟩
   have dG:Bel W6 wb:=by rw[fa];exact af zR _
   have Jf:Hid (EdS w0 wb (.slice (some ⟨W6.heap.size,0,none⟩) 1 1) [⟨4,y.kind,y.name,r.key,m2⟩] [.iface 187 (.agg #[.string y.kind,.string y.name,.string r.key])]):=by show EdS _ _ _ _ _;rw[fa];exact EdS.one HU.out 107
   obtain⟨av,cv,W7,bC,MB,Mg⟩:=rj 104 (S2.out.later dG) Jf.out (ae IQ.out dG).size (by have:=OF.out;rw[XN];omega);have MH:=uh MB;have Oq:=uh (S2.out.later dG|>.below (ae IQ.out dG) Mg zE);rw[fa,← JR.out,XN]at bC;rw[XN,← JR.out]at MH;have hh:=Lp.out.at_;have Wd:=Lp.out.lt;have rr:=LO.out.get 0 _ rfl;have rl:=LO.out.lt;clear dG fa MB Mg;go_wp2_with (first|refine wpList_load_mid rfl 148 _ rfl bh 0 rfl [.string y.kind,.string y.name] _ hh Tryz.underlying148 rfl (by kernel_rfl) ?_|(at_builtin;refine Go.Lib.wpList_append_run _ rfl _ _ 104 104 rfl _ _ rfl rfl _ W7 bC ?_))
   clear bC hh Wd rr rl;go_roundw
   case rel=>exact⟨q+1,_,by omega,by go_num,by rw[eU.out,Ei.out];exact MH.out,Oq.out⟩
   case measure=>simp[intOf];omega
  ·have lO:¬ ((mn:Int)=0):=by omega
   have Ei:Hid (Pl.dh x y r=[⟨3,y.kind,y.name,r.key,m2⟩]):=by show _=_;rw[Mi.out,if_neg (by rw[← Tk.out];exact h0)]
   have HU:Hid (EdV w0 W6 ⟨3,y.kind,y.name,r.key,m2⟩ (.iface 189 (.agg #[.string y.kind,.string y.name,.string r.key,.slice Pm mn JO]))):=by show EdV _ _ _ _;rw[Tk.out];exact .set _ _ _ _ _ _ _ (ly HO6.out zN) V7
   obtain⟨wb,fa⟩:∃ z,z=W6.alloc (.cells #[.iface 189 (.agg #[.string y.kind,.string y.name,.string r.key,.slice Pm mn JO])] 107):=⟨_,rfl⟩
   have dG:Bel W6 wb:=by rw[fa];exact af zR _
   have Jf:Hid (EdS w0 wb (.slice (some ⟨W6.heap.size,0,none⟩) 1 1) [⟨3,y.kind,y.name,r.key,m2⟩] [.iface 189 (.agg #[.string y.kind,.string y.name,.string r.key,.slice Pm mn JO])]):=by show EdS _ _ _ _ _;rw[fa];exact EdS.one HU.out 107
   obtain⟨av,cv,W7,bC,MB,Mg⟩:=rj 104 (S2.out.later dG) Jf.out (ae IQ.out dG).size (by have:=OF.out;rw[XN];omega);have MH:=uh MB;have Oq:=uh (S2.out.later dG|>.below (ae IQ.out dG) Mg zE);rw[fa,← JR.out,XN]at bC;rw[XN,← JR.out]at MH;have hh:=Lp.out.at_;have Wd:=Lp.out.lt;have rr:=LO.out.get 0 _ rfl;have rl:=LO.out.lt;clear dG fa MB Mg;go_wp2_with (first|refine wpList_load_mid rfl 148 _ rfl bh 0 rfl [.string y.kind,.string y.name] _ hh Tryz.underlying148 rfl (by kernel_rfl) ?_|(at_builtin;refine Go.Lib.wpList_append_run _ rfl _ _ 104 104 rfl _ _ rfl rfl _ W7 bC ?_))
   clear bC hh Wd rr rl;go_roundw
   case rel=>exact⟨q+1,_,by omega,by go_num,by rw[eU.out,Ei.out];exact MH.out,Oq.out⟩
   case measure=>simp[intOf];omega
theorem EdS.later {B W W':World} {s:Value} {m:List Pl.Ch} {ys:List Value} (h:EdS B W s m ys) (hb:Bel W W'):EdS B W' s m ys:=by
 refine⟨h.len,fun i hi=>(h.els i hi).later hb, ?_⟩;rcases h.at_ with q|⟨p,o,c,e,hp,hc⟩
 ·exact No q
 ·exact Xk ⟨p,o,c,e,zL hp hb.size,fun j u hj=>(Yg (a:=⟨p,o+j,none⟩) (hb.block p hp)).trans (hc j u hj)⟩
def VJa (w0:World) (mk:Nat) (z0:Nat) (p:Nat) (o:Nat) (na:Nat) (ac:Nat) (qi:Nat) (an:Nat) (uc:Nat) (lo:Nat) (rc:Nat) (xc:Nat) (yc:Nat) (ua:Option Addr) (ra:Option Addr) (xa:Option Addr) (ya:Option Addr) (x:Pl.Bl) (y:Pl.Bl) (dl:List Pl.Ch):Nat→Value→World→Prop
 |0,vv,_=>vv=.slice ua an uc
 |1,vv,_=>vv=.map (some mk)
 |2,vv,_=>vv=.pointer (some ⟨z0,0,none⟩)
 |3,vv,_=>vv=.string y.kind
 |4,vv,_=>vv=.agg #[.slice ra (Pl.ah x.kind).length rc]
 |5,vv,_=>vv=.slice (some ⟨p,o,none⟩) na ac
 |6,vv,_=>vv=.int .i64 (qi:Int)
 |7,vv,_=>vv=.pointer (some ⟨p,o+qi*3,none⟩)
 |8,vv,_=>vv=.agg #[.string x.kind,.string x.name,.slice xa x.lines.length xc]
 |9,vv,_=>vv=.agg #[.string y.kind,.string y.name,.slice ya y.lines.length yc]
 |10,vv,W=>∃ y1 y2 ys,vv=.slice y1 dl.length y2∧EdR w0 lo W (.slice y1 dl.length y2) dl ys
 |_,_,_=>True
theorem FN (w0:World) (mk:Nat) (z0:Nat) (p:Nat) (o:Nat) (na:Nat) (ac:Nat) (qi:Nat) (an:Nat) (uc:Nat) (lo:Nat) (rc:Nat) (xc:Nat) (yc:Nat) (ua:Option Addr) (ra:Option Addr) (xa:Option Addr) (ya:Option Addr) (x:Pl.Bl) (y:Pl.Bl) (dl:List Pl.Ch):∀ jj vv W W',Bel W W'→VJa w0 mk z0 p o na ac qi an uc lo rc xc yc ua ra xa ya x y dl jj vv W→VJa w0 mk z0 p o na ac qi an uc lo rc xc yc ua ra xa ya x y dl jj vv W':=by
 intro jj vv W W' hb h;match jj with
 |0|1|2|3|4|5|6|7|8|9=>exact h
 |10=>
  obtain⟨y1,y2,ys,h1,h2⟩:=h;exact⟨y1,y2,ys,h1,h2.later hb⟩
 |n+11=>exact trivial
def VJb (w0:World) (z0:Nat) (an:Nat) (uc:Nat) (yc:Nat) (ua:Option Addr) (ya:Option Addr) (y:Pl.Bl):Nat→Value→World→Prop
 |0,vv,_=>vv=.slice ua an uc
 |1,vv,_|5,vv,_=>vv=.agg #[.string y.kind,.string y.name,.slice ya y.lines.length yc]
 |2,vv,_=>vv=.agg #[.string y.kind,.string y.name]
 |3,vv,_=>vv=.pointer (some ⟨z0,2,none⟩)
 |4,vv,_=>vv=.slice ya y.lines.length yc
 |6,vv,_=>vv=.iface 154 (.agg #[.string y.kind,.string y.name,.slice ya y.lines.length yc])
 |7,vv,W=>∃ y1,vv=.slice y1 1 1∧EdS w0 W (.slice y1 1 1) [Pl.nq y] [.iface 154 (.agg #[.string y.kind,.string y.name,.slice ya y.lines.length yc])]
 |_,_,_=>True
theorem Fe (w0:World) (z0:Nat) (an:Nat) (uc:Nat) (yc:Nat) (ua:Option Addr) (ya:Option Addr) (y:Pl.Bl):∀ jj vv W W',Bel W W'→VJb w0 z0 an uc yc ua ya y jj vv W→VJb w0 z0 an uc yc ua ya y jj vv W':=by
 intro jj vv W W' hb h;match jj with
 |0|1|2|3|4|5|6=>exact h
 |7=>
  obtain⟨y1,h1,h2⟩:=h;exact⟨y1,h1,h2.later hb⟩
 |n+8=>exact trivial
theorem vr {ga:List Pl.Ch} {a b:List Pl.Bl} {k:Nat} (hk:k<b.length):cE ga a b (k+1)=cE ga a b k++Pl.bR a (b.getD k Pl.aG):=by
 unfold cE;rw[Pl.cp Pl.aG b k hk,Xv,XE,XG]
theorem xm {kind name:ByteArray}:∀ (l:List Pl.Bl) (jj k:Nat),Pl.findF kind name l jj=some k→Pl.isB kind name (l.getD (k - jj) Pl.aG)=true
 |[],_,_,h=>by simp[Pl.findF]at h
 |b::l,jj,k,h=>by
  rw[Pl.findF]at h;split at h
  ·rename_i q
   injection h with h;subst h
   rw[Nat.sub_self];exact q
  ·have h1:=xm l (jj+1) k h;have h2:=(Pl.rK l (jj+1) k h).1;have e:k - jj=(k - (jj+1))+1:=by omega
   rw[e,List.getD_cons_succ];exact h1
theorem Gq {s:List Pl.Bl} {kind name:ByteArray} {k:Nat} (h:Pl.di s kind name=some k):(s.getD k Pl.aG).kind=kind∧(s.getD k Pl.aG).name=name:=by
 have:=xm s 0 k h;rw[Nat.sub_zero]at this;unfold Pl.isB at this;rw[Xj]at this;exact⟨fv (by simpa using this.1),fv (by simpa using this.2)⟩
theorem FC {k:ByteArray} (h:(Pl.ah k).length≠0):k.size≤200:=by
 have tz:k.toList.length=k.size:=by
  cases k with
  |mk a=>rw[Pl.tl];exact Yk
 rw[← tz];unfold Pl.ah at h;split at h
 ·rename_i q;rw[eq_of_beq q];decide
 ·split at h
  ·rename_i q;rw[eq_of_beq q];decide
  ·split at h
   ·rename_i q;rw[eq_of_beq q];decide
   ·exact absurd rfl h
theorem tL {s:List Pl.Bl} (h:Pl.bw s=true) (hz:oi s):Hsz s:=fun i hi=>by
 have e:s.getD i Pl.aG=s[i]:=by simp[hi]
 have h1:=qX h hi;unfold Pl.dQ at h1;rw[Xj,Xj,Xj]at h1;refine⟨?_,by rw[e];exact(hz _ (Xq hi)).1⟩;have:=FC (k:=(s.getD i Pl.aG).kind) (fun q=>by have:=h1.1.1.1;rw[q]at this;simp at this);unfold maxLen;omega
theorem Kn.looks {W:World} {mb:Nat} {vt vb vs:Value} (h:Kn W mb vt vb vs) (kind:ByteArray):∃ ra rc,∀ X,Bel W X→(Instr.lookup 121 (.map (some mb)) (.string kind) false).run Tryz.prog X=.ok (.agg #[.slice ra (Pl.ah kind).length rc]) X∧Raw X [.row 75 aB] [bV (Pl.ah kind)] [.slice ra (Pl.ah kind).length rc]:=by
 obtain⟨ra,rc,e,hr⟩:=h.rules kind;refine⟨ra,rc,fun X hX=>⟨?_,hr.later hX⟩⟩;have:=oT (h.later hX).map kind;rw[e]at this;exact this
theorem lT (a b:List Pl.Bl) (ha:a.length≤60) (k:Nat) (hb:k≤60) (hk:k≤b.length):(cE ((a.filter (Pl.je b)).map Pl.dO) a b k).length≤800:=by
 unfold cE;rw[At,XT];have h1:=Yz (Pl.je b) a;have h2:=oR a (b.take k);rw[Xo]at h2;omega
theorem wW (a b:List Pl.Bl) (av bv:Value) (w0:World) (ha:Raw w0 bL [cq a] [av]) (hb:Raw w0 bL [cq b] [bv]) (Ca:Pl.bw a=true) (hvb:Pl.bw b=true) (hza:oi a) (hzb:oi b) (hla:∀ z∈a,z.lines.length≤4194304) (wR:∀ z∈b,z.lines.length≤4194304):
  Calls Tryz.prog 53 #[av,bv] w0 fun e w'=>∃ v xs,e=.returned v∧EdR w0 w0.heap.size w' v ((a.filter (Pl.je b)).map Pl.dO++b.flatMap (Pl.bR a)) xs∧Bel w0 w':=by
 obtain⟨aa,ac,rfl⟩:=ha.aT;obtain⟨ba,bc,rfl⟩:=hb.aT;have HA:=uh ha;have HB:=uh hb;have JQ:=uh hla;have tq:=uh wR;have DN:=uh (tL Ca hza);have SZ:=uh (tL hvb hzb);have Ms:=uh (tP Ca);have Es:=uh (tP hvb);have Ip:=Pl.fh Ca;have Ib:=Pl.fh hvb;have qt:=uh (Xt Ip Ib);clear ha hb Ca hvb hza hzb hla wR;obtain⟨na,IW⟩:∃ n,n=a.length:=⟨_,rfl⟩
 obtain⟨nb,p5⟩:∃ n,n=b.length:=⟨_,rfl⟩
 have uO:=uh IW;have kt:=uh p5;have e1:a.length=na:=IW.symm;have e2:b.length=nb:=p5.symm;clear IW p5;rw[e1]at Ip;rw[e2]at Ib;rw[e1,e2];clear e1 e2;have ML:=uh (Fb w0);go_enter Tryz.func53,Tryz.ntmps53
 go_wp2_with fail
 refine ML.out.mono ?_;rintro e w1 ⟨mk,vt,vb,vs,rfl,dy,cr⟩;have D3:=uh dy;have lS:=uh cr;clear dy cr ML;have PN:=uh (BQ a (.slice aa na ac) w1 (by rw[uO.out];exact HA.out.later lS.out) DN.out Ms.out);go_wp2_with fail
 refine PN.out.mono ?_;rintro e w2 ⟨ma,rfl,hma,dD⟩;have Vd:=uh hma;have eM:=uh (ae lS.out dD);replace D3:=uh (D3.out.later dD)
 clear hma dD PN;have HP2:=uh (BQ b (.slice ba nb bc) w2 (by rw[kt.out];exact HB.out.later eM.out) SZ.out Es.out);go_wp2_with fail
 refine HP2.out.mono ?_;rintro e wk ⟨mb,rfl,Lw,ku⟩;have HMB:=uh Lw;have zh:=uh (ae eM.out ku);replace D3:=uh (D3.out.later ku)
 replace Vd:=uh (Vd.out.later ku)
 clear Lw ku HP2 lS eM;have Ay:=uh (EdR.nil w0 wk.heap.size wk);go_wp2;go_loopw [8,24] (fun vo vi wr=>∃ (k:Nat) (xs:List Value),k≤na∧vi=.int .i64 k∧EdR w0 wk.heap.size wr vo (ef a b k) xs∧Bel wk wr) (fun _ vi _=>na - (intOf vi).toNat)
 case atStart=>exact⟨0,[],zN,rfl,Ay.out,zR⟩
 case round=>
  obtain⟨k,xs,hk,rfl,hE,hB⟩:=hrel;have HE:=uh hE;have cB:=uh hB;obtain⟨ua,uc,sD⟩:=hE.shape;subst sD;clear hE hB Ay;by_cases bq:k<na
  rotate_left
  ·have jq:ef a b k=(a.filter (Pl.je b)).map Pl.dO:=by unfold ef;rw[Xp (by have:=uO.out;omega)]
   rw[jq]at HE ⊢;obtain⟨ga,pU⟩:∃ ga,ga=(a.filter (Pl.je b)).map Pl.dO:=⟨_,rfl⟩
   have TM:=uh pU;rw[← pU]at HE ⊢;clear jq pU;go_wp2;go_loopw [8,47] (fun vo vi wr=>∃ (k:Nat) (xs:List Value),k≤nb∧vi=.int .i64 k∧EdR w0 wk.heap.size wr vo (cE ga a b k) xs∧Bel wk wr) (fun _ vi _=>nb - (intOf vi).toNat)
   case atStart=>exact⟨0,xs,zN,rfl,by rw[show cE ga a b 0=ga by simp[cE]];exact HE.out,cB.out⟩
   case round=>
    obtain⟨k2,xs2,Aw,rfl,hE,hB⟩:=hrel;clear HE cB;have HE:=uh hE;have cB:=uh hB;obtain⟨ua2,uc2,sD⟩:=hE.shape;subst sD;clear hE hB;by_cases su:k2<nb
    rotate_left
    ·have jq:cE ga a b k2=ga++b.flatMap (Pl.bR a):=by unfold cE;rw[Xp (by have:=kt.out;omega)]
     obtain⟨dd,lZ⟩:∃ z,z=cE ga a b k2:=⟨_,rfl⟩
     rw[← lZ]at HE jq ⊢;have HD:Hid (EdR w0 w0.heap.size wr (.slice ua2 dd.length uc2) (ga++b.flatMap (Pl.bR a)) xs2):=by rw[← jq];exact HE.out.NH zh.out.size
     clear jq lZ HE;go_wp2;go_ret;rw[TM.out]at HD;exact⟨_,xs2,rfl,HD.out,ae zh.out cB.out⟩
    have eB:k2<b.length:=by have:=kt.out;omega
    rcases cN (HB.out.later (ae zh.out cB.out)) with⟨e0,_⟩|⟨p2,o2,c2,hv,hp,dR,aE⟩
    ·omega
    rw[← kt.out]at hv;injection hv with g1 _ g3
    subst g1;subst g3;obtain⟨ya,yc,ji,lQ⟩:=aE k2 eB;have eU:=uh (vr (ga:=ga) (a:=a) eB);have gh:=lT a b qt.out.1 k2 (by omega) (by omega);rw[← TM.out]at gh;have jQ:=uh (SZ.out k2 eB);have Ow:Hid ((b.getD k2 Pl.aG).lines.length≤4194304):=by
     have e:b.getD k2 Pl.aG=b[k2]:=by simp[eB]
     show _≤_;rw[e];exact tq.out _ (Xq eB)
    have N9:Hid (∃ z,Raw w0 aV [bD (b.getD k2 Pl.aG).lines] [z]∧z=.slice ya (b.getD k2 Pl.aG).lines.length yc):=by
     rcases cN HB.out with⟨e0,_⟩|⟨p3,o3,c3,wC,hp3,_,O6⟩
     ·omega
     obtain⟨ya3,yc3,WS,UB⟩:=O6 k2 eB;rw[← kt.out]at wC;injection wC with q1 _ _
     injection q1 with q1
     injection q1 with q4 q5
     subst q4;subst q5;have hg4:=aj WS hp3 (ae zh.out cB.out);have hh:=aF ji 2 _ rfl;have Ty:=aF hg4 2 _ rfl;rw[hh]at Ty;injection Ty with Ty
     exact⟨_,UB,Ty.symm⟩
    obtain⟨y,hy⟩:∃ y,y=b.getD k2 Pl.aG:=⟨_,rfl⟩
    rw[← hy]at ji lQ eU jQ Ow N9;obtain⟨ac0,sA⟩:∃ z,z=cE ga a b k2:=⟨_,rfl⟩
    rw[← sA]at HE eU gh ⊢;obtain⟨an,Ev⟩:∃ z,z=ac0.length:=⟨_,rfl⟩
    have OF:Hid (ac0.length≤800):=gh;rw[← Ev]at HE gh ⊢;have JR:=uh Ev;have cZ:(0:Int)≤(k2:Int):=by omega
    have dy:(k2:Int)<(nb:Int):=by omega
    obtain⟨w6,nR⟩:∃ z,z=wr.alloc (.cells #[.string y.kind,.string y.name,.slice ya y.lines.length yc] 58):=⟨_,rfl⟩
    have lM:Bel wr w6:=by rw[nR];exact af zR _
    obtain⟨z0,dp⟩:∃ z,z=wr.heap.size:=⟨_,rfl⟩
    have uM:Hid (au w6 z0 [.string y.kind,.string y.name,.slice ya y.lines.length yc]):=by show au _ _ _;rw[nR];exact au.new _ #[.string y.kind,.string y.name,.slice ya y.lines.length yc] _ _ dp
    replace cB:=uh (ae cB.out lM)
    replace HE:=uh (HE.out.later lM)
    obtain⟨fo,D5⟩:∃ z,z=Pl.di a y.kind y.name:=⟨_,rfl⟩
    have TN:=uh D5;obtain⟨fb,Pn⟩:∃ z,z=fo.isSome:=⟨_,rfl⟩
    obtain⟨fi,JG⟩:∃ z,z=fo.getD 0:=⟨_,rfl⟩
    have Ml:=uh Pn;have HFI:=uh JG;have AR:Hid (Pl.bR a y=zK a y fo):=by show _=_;rw[D5];exact qU a y
    have yV:Hid (∀ X,Bel w6 X→(Instr.lookup 144 (.map (some ma)) (.agg #[.string y.kind,.string y.name]) true).run Tryz.prog X=.ok (.tuple #[.int .i64 (fi:Int),.bool fb]) X):=fun X hX=>by
     rw[Pn,JG,D5];exact Bo (Vd.out.later (ae cB.out hX)) DN.out Ms.out y.kind y.name jQ.out.1 jQ.out.2
    have JA:=uh (fun (X:World)=>mY y.kind y.name (.slice ya y.lines.length yc) X);clear hy sA Ev hp dR aE gh lM lQ Pn JG D5;go_upto_region 14 with(refine wpList_load_mid rfl 58 _ rfl p2 (o2+k2*3) rfl [.string y.kind,.string y.name,.slice ya y.lines.length yc] _ ji Tryz.underlying58 rfl (by kernel_rfl) ?_)
    rw[← nR,← dp];clear nR dp ji;have ya0:=uM.out.at_;have yl0:=uM.out.lt;go_wp2_with (refine wpList_load_mid rfl 58 _ rfl z0 0 rfl [.string y.kind,.string y.name,.slice ya y.lines.length yc] _ ya0 Tryz.underlying58 rfl (by kernel_rfl) ?_)
    refine(JA.out w6).mono ?_;rintro e w7 ⟨rfl,oW⟩;have uI:=yV.out w7 oW;replace cB:=uh (ae cB.out oW)
    replace HE:=uh (HE.out.later oW)
    replace uM:=uh (uM.out.later oW)
    clear oW ya0 yl0 yV;obtain⟨ua,SB⟩:∃ z,z=ua2:=⟨_,rfl⟩
    obtain⟨uc,St⟩:∃ z,z=uc2:=⟨_,rfl⟩
    rw[← SB,← St]at HE ⊢;clear SB St;cases fb
    ·have MJ:fo=none:=by
      cases hh:fo with
      |none=>rfl
      |some q=>have:=Ml.out;rw[hh]at this;cases this
     have DT:Hid (cE ga a b (k2+1)=ac0++[Pl.nq y]):=by show _=_;rw[eU.out,AR.out,MJ];rfl
     have MC:Hid ((1:Nat)≤100):=by show (1:Nat)≤100;decide
     have Vh:Hid (∀ X,EdV w0 X (Pl.nq y) (.iface 154 (.agg #[.string y.kind,.string y.name,.slice ya y.lines.length yc]))):=fun X=>by
      obtain⟨z,hz,e⟩:=N9.out;subst e;exact .new _ _ _ _ _ hz
     clear MJ;go_upto_region 17 with fail
     refine RY.eY w7 zR (VJb w0 z0 an uc yc ua ya y) (Fe _ _ _ _ _ _ _ _) (fun u W'=>∃ g' c' xs',u=.slice g' (an+1) c'∧EdR w0 wk.heap.size W' u (ac0++[Pl.nq y]) xs'∧Bel wk W') 8 12 79 8 (by kernel_rfl) (by kernel_rfl) (by kernel_rfl) (by kernel_rfl) (by kernel_rfl) rfl (by kernel_rfl) _ _ rfl rfl rfl rfl rfl (by kernel_rfl) ?_ ?_ ?_
     ·intro ii o' ho wJ a X hX hk hd;have zz0:=uM.out.later hX;have zz0l:=zz0.lt;match ii,ho with
      |0,rfl=>
       have e8:a.tmps[8]?.getD undef=.slice ua an uc:=(RY.ai a 8).trans ((hk 8 (RY.aS (by kernel_rfl))).trans rfl);exact RY.p (.slice ua an uc) (by simp[execOp,go_sem,e8])
      |1,rfl=>
       have v14:a.eval (.tmp 14)=.pointer (some ⟨z0,0,none⟩):=(hk 14 (RY.aS (by kernel_rfl))).trans rfl;exact No ⟨_,X,ak 58 _ rfl z0 0 v14 [.string y.kind,.string y.name,.slice ya y.lines.length yc] _ zz0.at_ Tryz.underlying58 rfl (by kernel_rfl),zR,rfl⟩
      |2,rfl=>
       have e72:=RY.E1 hd 1 72;refine Xk ⟨76,#[.agg #[.string y.kind,.string y.name,.slice ya y.lines.length yc]],by simp[go_sem,e72],(mY y.kind y.name (.slice ya y.lines.length yc) X).mono ?_⟩;rintro e W' ⟨rfl,hb⟩;exact⟨_,rfl,hb,rfl⟩
      |3,rfl=>
       have e14:a.tmps[14]?.getD undef=.pointer (some ⟨z0,0,none⟩):=(RY.ai a 14).trans ((hk 14 (RY.aS (by kernel_rfl))).trans rfl);exact RY.p (.pointer (some ⟨z0,2,none⟩)) (by simp[execOp,go_sem,e14])
      |4,rfl=>
       have e74:=RY.E1 hd 3 74;have ycl_:=zz0.get 2 _ rfl;exact RY.p (.slice ya y.lines.length yc) (by simp[execOp,go_sem,e74,ycl_])
      |5,rfl=>
       exact RY.p (.agg #[.string y.kind,.string y.name,.slice ya y.lines.length yc]) (by simp[execOp,go_sem,RY.E1 hd 2 73,RY.E1 hd 4 75])
      |6,rfl=>
       exact RY.p (.iface 154 (.agg #[.string y.kind,.string y.name,.slice ya y.lines.length yc])) (by simp[execOp,go_sem,RY.E1 hd 5 76])
      |7,rfl=>
       exact No ⟨.slice (some ⟨X.heap.size,0,none⟩) 1 1,X.alloc (.cells #[.iface 154 (.agg #[.string y.kind,.string y.name,.slice ya y.lines.length yc])] 107),by simp[execOp,go_sem,RY.E1 hd 6 77],af zR _,some ⟨X.heap.size,0,none⟩,rfl,EdS.one (Vh.out X) 107⟩
      |n+8,ho=>omega
     ·intro a X hX hk hd;have e0:a.eval (.tmp 71)=.slice ua an uc:=hd 0 _ 71 rfl rfl ⟨⟨0,.data⟩,by simp,rfl,rfl⟩ (by decide);obtain⟨y1,e1,VH⟩:=hd 7 _ 78 rfl rfl ⟨⟨7,.data⟩,by simp,rfl,rfl⟩ (by decide);obtain⟨ux,uy,W2,bC,yT,pV⟩:=rj 104 (HE.out.later hX) VH (ae cB.out hX).size (by have:=OF.out;have:=MC.out;rw[XN];omega);rw[XN,← JR.out]at bC yT;exact⟨_,W2,aQ (.tmp 71) (.tmp 78) 104 rfl e0 e1 bC,ux,uy,_,rfl,yT,(HE.out.later hX).below (ae cB.out hX) pV zE⟩
     ·intro vs X hK e2;simp only[RY.aC,Act.put,so,As,An];rw[e2];generalize vs 71=s71,vs 72=s72,vs 73=s73,vs 74=s74,vs 75=s75,vs 76=s76,vs 77=s77,vs 78=s78;generalize vs 79=s79 at hK ⊢;obtain⟨g',c',xs',rfl,yT,kr⟩:=hK;have k6:=uh yT;have eM:=uh kr;clear yT kr;go_wp2;go_roundw
      case rel=>exact⟨k2+1,xs',by omega,by go_num,by rw[DT.out];exact k6.out,eM.out⟩
      case measure=>simp[intOf];omega
    ·obtain⟨qi,OK⟩:∃ q,fo=some q:=by
      cases hh:fo with
      |none=>have:=Ml.out;rw[hh]at this;cases this
      |some q=>exact⟨q,rfl⟩
     have hfq:qi=fi:=by rw[HFI.out,OK];rfl
     subst hfq;have kz:qi<a.length:=Pl.yr (TN.out.symm.trans OK);have Tz:=uh (Gq (TN.out.symm.trans OK));have sn:Hid (Pl.bR a y=Pl.fJ (a.getD qi Pl.aG) y):=by show _=_;rw[AR.out,OK];rfl
     rcases cN HA.out with⟨e0,_⟩|⟨p,o,c,hv,hp,dR,aE⟩
     ·omega
     rw[← uO.out]at hv;injection hv with g1 _ g3
     subst g1;subst g3;obtain⟨xa,xc,dm,dH⟩:=aE qi kz;have Mt:Hid ((a.getD qi Pl.aG).lines.length≤4194304):=by
      have e:a.getD qi Pl.aG=a[qi]:=by simp[kz]
      show _≤_;rw[e];exact JQ.out _ (Xq kz)
     obtain⟨x,hx⟩:∃ x,x=a.getD qi Pl.aG:=⟨_,rfl⟩
     rw[← hx]at dm dH Mt Tz sn;obtain⟨ra,rc,Rv⟩:=D3.out.looks x.kind;have cU:Hid (w7.rangeAt p (o+qi*3) [.string x.kind,.string x.name,.slice xa x.lines.length xc]):=aj dm hp (ae zh.out cB.out);have sx:=uh (zL hp (ae zh.out cB.out).size);have yV:Hid (∀ X,Bel w7 X→(Instr.lookup 121 (.map (some mk)) (.string y.kind) false).run Tryz.prog X=.ok (.agg #[.slice ra (Pl.ah x.kind).length rc]) X∧Raw X [.row 75 aB] [bV (Pl.ah x.kind)] [.slice ra (Pl.ah x.kind).length rc]):=fun X hX=>by rw[← Tz.out.1];exact Rv X (ae cB.out hX)
     obtain⟨dl,kk⟩:∃ z,z=Pl.fJ x y:=⟨_,rfl⟩
     have MC:Hid (dl.length≤100):=by show _≤_;rw[kk];have:=l9 x y;omega
     have qn:=uh dH;have gE:Hid (∀ X,Bel w7 X→Calls Tryz.prog 77 #[.agg #[.slice ra (Pl.ah x.kind).length rc],.agg #[.string x.kind,.string x.name,.slice xa x.lines.length xc],.agg #[.string y.kind,.string y.name,.slice ya y.lines.length yc]] X fun e w'=>∃ v xs,e=.returned v∧EdR w0 X.heap.size w' v dl xs∧Bel X w'):=fun X hX=>by
      obtain⟨z,hz,e⟩:=N9.out;subst e;rw[kk];exact MW x y ra xa ya rc xc yc w0 X (ae zh.out (ae cB.out hX)) (yV.out X hX).2 qn.out hz Tz.out.1 Tz.out.2 Mt.out Ow.out
     have DT:Hid (cE ga a b (k2+1)=ac0++dl):=by show _=_;rw[eU.out,sn.out,kk]
     have Sk:(0:Int)≤(qi:Int):=by omega
     have I2:(qi:Int)<(na:Int):=by have:=uO.out;omega
     clear hx dm dH hp aE dR kk Rv kz OK;go_upto_region 16 with fail
     refine RY.eY w7 zR (VJa w0 mk z0 p o na ac qi an uc w7.heap.size rc xc yc ua ra xa ya x y dl) (FN _ _ _ _ _ _ _ _ _ _ _ _ _ _ _ _ _ _ _ _ _) (fun u W'=>∃ g' c' xs',u=.slice g' (an+dl.length) c'∧EdR w0 wk.heap.size W' u (ac0++dl) xs'∧Bel wk W') 11 12 70 8 (by kernel_rfl) (by kernel_rfl) (by kernel_rfl) (by kernel_rfl) (by kernel_rfl) rfl (by kernel_rfl) _ _ rfl rfl rfl rfl rfl (by kernel_rfl) ?_ ?_ ?_
     ·intro ii o' ho wJ a X hX hk hd;have zz0:=uM.out.later hX;have zz0l:=zz0.lt;match ii,ho with
      |0,rfl=>
       have e8:a.tmps[8]?.getD undef=.slice ua an uc:=(RY.ai a 8).trans ((hk 8 (RY.aS (by kernel_rfl))).trans rfl);exact RY.p (.slice ua an uc) (by simp[execOp,go_sem,e8])
      |1,rfl=>
       have e5:a.tmps[5]?.getD undef=.map (some mk):=(RY.ai a 5).trans ((hk 5 (RY.aS (by kernel_rfl))).trans rfl);exact RY.p (.map (some mk)) (by simp[execOp,go_sem,e5])
      |2,rfl=>
       have e14:a.tmps[14]?.getD undef=.pointer (some ⟨z0,0,none⟩):=(RY.ai a 14).trans ((hk 14 (RY.aS (by kernel_rfl))).trans rfl);exact RY.p (.pointer (some ⟨z0,0,none⟩)) (by simp[execOp,go_sem,e14])
      |3,rfl=>
       have e61:=RY.E1 hd 2 61;have ycl_:=zz0.get 0 _ rfl;exact RY.p (.string y.kind) (by simp[execOp,go_sem,e61,ycl_])
      |4,rfl=>
       exact RY.p (.agg #[.slice ra (Pl.ah x.kind).length rc]) (by simp[execOp,go_sem,RY.E1 hd 1 60,RY.E1 hd 3 62,(yV.out X hX).1])
      |5,rfl=>
       have e0:a.tmps[0]?.getD undef=.slice (some ⟨p,o,none⟩) na ac:=(RY.ai a 0).trans ((hk 0 (RY.aS (by kernel_rfl))).trans rfl);exact RY.p (.slice (some ⟨p,o,none⟩) na ac) (by simp[execOp,go_sem,e0])
      |6,rfl=>
       have e15:a.tmps[15]?.getD undef=.int .i64 (qi:Int):=(RY.ai a 15).trans ((hk 15 (RY.aS (by kernel_rfl))).trans rfl);exact RY.p (.int .i64 (qi:Int)) (by simp[execOp,go_sem,e15])
      |7,rfl=>
       exact RY.p (.pointer (some ⟨p,o+qi*3,none⟩)) (by simp[execOp,go_sem,RY.E1 hd 5 64,RY.E1 hd 6 65,Sk,I2])
      |8,rfl=>
       have v66:a.eval (.tmp 66)=.pointer (some ⟨p,o+qi*3,none⟩):=hd 7 _ 66 rfl rfl ⟨⟨7,.data⟩,by simp,rfl,rfl⟩ (by decide);exact No ⟨_,X,ak 58 _ rfl p (o+qi*3) v66 [.string x.kind,.string x.name,.slice xa x.lines.length xc] _ (aj cU.out sx.out hX) Tryz.underlying58 rfl (by kernel_rfl),zR,rfl⟩
      |9,rfl=>
       have v14:a.eval (.tmp 14)=.pointer (some ⟨z0,0,none⟩):=(hk 14 (RY.aS (by kernel_rfl))).trans rfl;exact No ⟨_,X,ak 58 _ rfl z0 0 v14 [.string y.kind,.string y.name,.slice ya y.lines.length yc] _ zz0.at_ Tryz.underlying58 rfl (by kernel_rfl),zR,rfl⟩
      |10,rfl=>
       have e63:=RY.E1 hd 4 63;have e67:=RY.E1 hd 8 67;have e68:=RY.E1 hd 9 68;refine Xk ⟨77,#[.agg #[.slice ra (Pl.ah x.kind).length rc],.agg #[.string x.kind,.string x.name,.slice xa x.lines.length xc],.agg #[.string y.kind,.string y.name,.slice ya y.lines.length yc]],by simp[go_sem,e63,e67,e68],(gE.out X hX).mono ?_⟩;rintro e W' ⟨v,ys,rfl,hE,hb⟩;obtain⟨x1,x2,hx⟩:=hE.shape;subst hx;exact⟨_,rfl,hb,x1,x2,ys,rfl,hE.NH hX.size⟩
      |n+11,ho=>omega
     ·intro a X hX hk hd;have e0:a.eval (.tmp 59)=.slice ua an uc:=hd 0 _ 59 rfl rfl ⟨⟨0,.data⟩,by simp,rfl,rfl⟩ (by decide);obtain⟨y1,y2,ys,e1,VH⟩:=hd 10 _ 69 rfl rfl ⟨⟨10,.data⟩,by simp,rfl,rfl⟩ (by decide);obtain⟨ux,uy,W2,bC,yT,pV⟩:=rj 104 (HE.out.later hX) VH.src (ae cB.out hX).size (by have:=OF.out;have:=MC.out;omega);rw[← JR.out]at bC yT;exact⟨_,W2,aQ (.tmp 59) (.tmp 69) 104 rfl e0 e1 bC,ux,uy,_,rfl,yT,(HE.out.later hX).below (ae cB.out hX) pV zE⟩
     ·intro vs X hK e2;simp only[RY.aC,Act.put,so,As,An];rw[e2];generalize vs 59=s59,vs 60=s60,vs 61=s61,vs 62=s62,vs 63=s63,vs 64=s64,vs 65=s65,vs 66=s66,vs 67=s67,vs 68=s68,vs 69=s69;generalize vs 70=s70 at hK ⊢;obtain⟨g',c',xs',rfl,yT,kr⟩:=hK;have k6:=uh yT;have eM:=uh kr;clear yT kr;go_wp2;go_roundw
      case rel=>exact⟨k2+1,xs',by omega,by go_num,by rw[DT.out];exact k6.out,eM.out⟩
      case measure=>simp[intOf];omega
  have eB:k<a.length:=by have:=uO.out;omega
  rcases cN (HA.out.later (ae zh.out cB.out)) with⟨e0,_⟩|⟨p,o,c,hv,hp,dR,aE⟩
  ·omega
  rw[← uO.out]at hv;injection hv with g1 _ g3
  subst g1;subst g3;obtain⟨xa,xc,dm,dH⟩:=aE k eB;have eU:=uh (pC (a:=a) (b:=b) eB);have gh:=my a b k;have jQ:=uh (DN.out k eB);obtain⟨x,hx⟩:∃ x,x=a.getD k Pl.aG:=⟨_,rfl⟩
  rw[← hx]at dm dH eU jQ;obtain⟨ac0,sA⟩:∃ z,z=ef a b k:=⟨_,rfl⟩
  rw[← sA]at HE eU gh ⊢;obtain⟨an,Ev⟩:∃ z,z=ac0.length:=⟨_,rfl⟩
  have OF:Hid (ac0.length≤60):=by have:=uO.out;show _≤_;omega
  rw[← Ev]at HE gh ⊢;have JR:=uh Ev;have cZ:(0:Int)≤(k:Int):=by omega
  have dy:(k:Int)<(na:Int):=by omega
  obtain⟨w6,nR⟩:∃ z,z=wr.alloc (.cells #[.string x.kind,.string x.name,.slice xa x.lines.length xc] 58):=⟨_,rfl⟩
  have lM:Bel wr w6:=by rw[nR];exact af zR _
  obtain⟨z0,dp⟩:∃ z,z=wr.heap.size:=⟨_,rfl⟩
  have qs:Hid (au w6 z0 [.string x.kind,.string x.name,.slice xa x.lines.length xc]):=by show au _ _ _;rw[nR];exact au.new _ #[.string x.kind,.string x.name,.slice xa x.lines.length xc] _ _ dp
  replace cB:=uh (ae cB.out lM)
  replace HE:=uh (HE.out.later lM)
  obtain⟨fb,Pn⟩:∃ z,z=(Pl.di b x.kind x.name).isSome:=⟨_,rfl⟩
  obtain⟨fi,JG⟩:∃ z,z=(Pl.di b x.kind x.name).getD 0:=⟨_,rfl⟩
  have SI:Hid (Pl.je b x= !fb):=by show _=_;rw[Pn];unfold Pl.je;cases Pl.di b x.kind x.name<;>rfl
  have yV:Hid (∀ X,Bel w6 X→(Instr.lookup 144 (.map (some mb)) (.agg #[.string x.kind,.string x.name]) true).run Tryz.prog X=.ok (.tuple #[.int .i64 (fi:Int),.bool fb]) X):=fun X hX=>by
   rw[Pn,JG];exact Bo (HMB.out.later (ae cB.out hX)) SZ.out Es.out x.kind x.name jQ.out.1 jQ.out.2
  have JA:=uh (fun (X:World)=>mY x.kind x.name (.slice xa x.lines.length xc) X);clear hx sA Ev hp dR aE gh lM dH Pn JG;go_upto_region 7 with(refine wpList_load_mid rfl 58 _ rfl p (o+k*3) rfl [.string x.kind,.string x.name,.slice xa x.lines.length xc] _ dm Tryz.underlying58 rfl (by kernel_rfl) ?_)
  rw[← nR,← dp];clear nR dp dm;have xa0:=qs.out.at_;have xl0:=qs.out.lt;go_wp2_with (refine wpList_load_mid rfl 58 _ rfl z0 0 rfl [.string x.kind,.string x.name,.slice xa x.lines.length xc] _ xa0 Tryz.underlying58 rfl (by kernel_rfl) ?_)
  refine(JA.out w6).mono ?_;rintro e w7 ⟨rfl,oW⟩;have uI:=yV.out w7 oW;replace cB:=uh (ae cB.out oW)
  replace HE:=uh (HE.out.later oW)
  replace qs:=uh (qs.out.later oW)
  clear oW xa0 xl0 yV;have xa0:=qs.out.at_;have xl0:=qs.out.lt;cases fb
  rotate_left
  ·have VE:Hid (EdR w0 wk.heap.size w7 (.slice ua an uc) (ef a b (k+1)) xs):=by show EdR _ _ _ _ _ _;rw[eU.out,SI.out];exact HE.out
   go_wp2;go_roundw
   case rel=>exact⟨k+1,xs,by omega,by go_num,VE.out,cB.out⟩
   case measure=>simp[intOf];omega
  have DT:Hid (ef a b (k+1)=ac0++[Pl.dO x]):=by show _=_;rw[eU.out,SI.out];rfl
  go_wp2_with (refine wpList_load_mid rfl 58 _ rfl z0 0 rfl [.string x.kind,.string x.name,.slice xa x.lines.length xc] _ xa0 Tryz.underlying58 rfl (by kernel_rfl) ?_)
  refine(JA.out w7).mono ?_;rintro e w8 ⟨rfl,uN⟩;replace cB:=uh (ae cB.out uN)
  replace HE:=uh (HE.out.later uN)
  have HU:Hid (EdV w0 w8 (Pl.dO x) (.iface 151 (.agg #[.string x.kind,.string x.name]))):=.gone _ _;obtain⟨wb,fa⟩:∃ z,z=w8.alloc (.cells #[.iface 151 (.agg #[.string x.kind,.string x.name])] 107):=⟨_,rfl⟩
  have dG:Bel w8 wb:=by rw[fa];exact af zR _
  have Jf:Hid (EdS w0 wb (.slice (some ⟨w8.heap.size,0,none⟩) 1 1) [Pl.dO x] [.iface 151 (.agg #[.string x.kind,.string x.name])]):=by show EdS _ _ _ _ _;rw[fa];exact EdS.one HU.out 107
  obtain⟨av,cv,W7,bC,MB,Mg⟩:=rj 104 (HE.out.later dG) Jf.out (ae cB.out dG).size (by have:=OF.out;rw[XN];omega);have MH:=uh MB;have OT:=uh ((HE.out.later dG).below (ae cB.out dG) Mg zE);rw[fa,← JR.out,XN]at bC;rw[XN,← JR.out]at MH;clear dG fa MB Mg uN xa0 xl0;go_wp2_with (at_builtin;refine Go.Lib.wpList_append_run _ rfl _ _ 104 104 rfl _ _ rfl rfl _ W7 bC ?_)
  clear bC;go_roundw
  case rel=>exact⟨k+1,_,by omega,by go_num,by rw[DT.out];exact MH.out,OT.out⟩
  case measure=>simp[intOf];omega
def VJn (b0:Nat) (c:Nat) (N0:Nat) (la:Option Addr) (k:ByteArray) (n:ByteArray) (l:List Pl.Ln):Nat→Value→World→Prop
 |0,vv,_|1,vv,_|3,vv,_=>vv=.pointer (some ⟨b0,0,none⟩)
 |2,vv,_=>vv=.string k
 |4,vv,_=>vv=.pointer (some ⟨b0,1,none⟩)
 |5,vv,_=>vv=.string n
 |6,vv,_=>vv=.pointer (some ⟨b0,2,none⟩)
 |7,vv,_=>vv=.slice la l.length c
 |8,vv,W=>∃ y1 y2 F,vv=.slice y1 l.length y2∧Rep W false aV F [bD l] [.slice y1 l.length y2]∧F.Nodup∧∀ z∈F,N0≤z
 |9,vv,W=>∃ y1 y2 F,vv=.agg #[.int .i64 2,.string k,.string n,.string {data:=#[]},.slice y1 l.length y2]∧Rep W false aV F [bD l] [.slice y1 l.length y2]∧F.Nodup∧∀ z∈F,N0≤z
 |_,_,_=>True
theorem G5 (b0:Nat) (c:Nat) (N0:Nat) (la:Option Addr) (k:ByteArray) (n:ByteArray) (l:List Pl.Ln):∀ jj vv W W',Bel W W'→VJn b0 c N0 la k n l jj vv W→VJn b0 c N0 la k n l jj vv W':=by
 intro jj vv W W' hb h;match jj with
 |0|1|2|3|4|5|6|7=>exact h
 |8|9=>
  obtain⟨y1,y2,F,h1,h2,h3⟩:=h;exact⟨y1,y2,F,h1,h2.later hb,h3⟩
 |n+10=>exact trivial
def VJs (b0:Nat) (c:Nat) (N0:Nat) (la:Option Addr) (k:ByteArray) (n:ByteArray) (key:ByteArray) (l:List Pl.Ln):Nat→Value→World→Prop
 |0,vv,_|1,vv,_|3,vv,_=>vv=.pointer (some ⟨b0,0,none⟩)
 |2,vv,_=>vv=.string k
 |4,vv,_=>vv=.pointer (some ⟨b0,1,none⟩)
 |5,vv,_=>vv=.string n
 |6,vv,_=>vv=.pointer (some ⟨b0,2,none⟩)
 |7,vv,_=>vv=.string key
 |8,vv,_=>vv=.pointer (some ⟨b0,3,none⟩)
 |9,vv,_=>vv=.slice la l.length c
 |10,vv,W=>∃ y1 y2 F,vv=.slice y1 l.length y2∧Rep W false aV F [bD l] [.slice y1 l.length y2]∧F.Nodup∧∀ z∈F,N0≤z
 |11,vv,W=>∃ y1 y2 F,vv=.agg #[.int .i64 3,.string k,.string n,.string key,.slice y1 l.length y2]∧Rep W false aV F [bD l] [.slice y1 l.length y2]∧F.Nodup∧∀ z∈F,N0≤z
 |_,_,_=>True
theorem Gf (b0:Nat) (c:Nat) (N0:Nat) (la:Option Addr) (k:ByteArray) (n:ByteArray) (key:ByteArray) (l:List Pl.Ln):∀ jj vv W W',Bel W W'→VJs b0 c N0 la k n key l jj vv W→VJs b0 c N0 la k n key l jj vv W':=by
 intro jj vv W W' hb h;match jj with
 |0|1|2|3|4|5|6|7|8|9=>exact h
 |10|11=>
  obtain⟨y1,y2,F,h1,h2,h3⟩:=h;exact⟨y1,y2,F,h1,h2.later hb,h3⟩
 |n+12=>exact trivial
theorem sU (k n:ByteArray) (w:World):Calls Tryz.prog 206 #[.agg #[.string k,.string n]] w (Ans aH (chD ⟨1,k,n,Pl.aJ,[]⟩) w):=by
 obtain⟨b0,aU⟩:∃ b,b=w.heap.size:=⟨_,rfl⟩
 obtain⟨wa,aP⟩:∃ wa,wa=(w.alloc (.cells #[.string k,.string n] 151)).alloc (.cells #[.int .i64 0,.string {data:=#[]},.string {data:=#[]},.string {data:=#[]},.slice none 0 0] 37):=⟨_,rfl⟩
 have HB:Hid (Bel w wa):=by show Below _ _ _;rw[aP];exact af (af zR _) _
 have HX:Hid (au wa b0 [.string k,.string n]):=by show au _ _ _;rw[aP,aU];exact(au.new w #[.string k,.string n] _ _ rfl).eO _
 have HO:Hid (aN wa (b0+1) 37 5):=by show aN _ _ _ _;rw[aP];exact aN.eL _ _ _ _ _ rfl (by simp[aU])
 have HZ:=uh aU;go_enter Tryz.func206,Tryz.ntmps206
 go_upto_region 1 with fail
 rw[← aP,← aU];clear aP aU;have x0:=HX.out.get 0 _ rfl;have x1:=HX.out.get 1 _ rfl;have xl:=HX.out.lt;have ol:=HO.out.lt;have bJ:wa.there (b0+1) 0 (#[.int .i64 1,.string k,.string n,.string {data:=#[]},.slice none 0 0]:Array Value).size:=aX HO.out _ _ (by simp);obtain⟨we,aZ⟩:∃ we,we=wa.setCells (b0+1) 0 [.int .i64 1,.string k,.string n,.string {data:=#[]},.slice none 0 0]:=⟨_,rfl⟩
 have dP:we.rangeAt (b0+1) 0 [.int .i64 1,.string k,.string n,.string {data:=#[]},.slice none 0 0]:=by rw[aZ];exact World.rangeAt_setCells_same _ _ _ _ bJ
 have fm:Hid (Bel w we):=by show Below _ _ _;rw[aZ];exact bW (by have:=HZ.out;omega) _ _ _ HB.out
 go_wp2_with (refine wpList_store_mid rfl 37 _ _ rfl (b0+1) 0 #[.int .i64 1,.string k,.string n,.string {data:=#[]},.slice none 0 0] rfl rfl bJ (by kernel_rfl) (by simp[Value.oneCell']) ?_)
 first|rw[← aZ]|(simp only[Xi];rw[← aZ])
 try simp only[Act.put]
 refine bodyPost_ret (v:=.agg #[.int .i64 1,.string k,.string n,.string {data:=#[]},.slice none 0 0]) (by simp[results,Tryz.results206,asAddr,run_loadVar_mid (P:=Tryz.prog) _ _ _ 37 [.int .i64 1,.string k,.string n,.string {data:=#[]},.slice none 0 0] _ dP Tryz.underlying37 rfl (by kernel_rfl)]) rfl ?_;exact⟨[.int .i64 1,.string k,.string n,.string {data:=#[]},.slice none 0 0],[]++[],rfl,bZ _ _ _ _ (.emp _ _ none rfl .nil),by simp,by simp,fm.out⟩
theorem rM (k n key:ByteArray) (w:World):Calls Tryz.prog 219 #[.agg #[.string k,.string n,.string key]] w (Ans aH (chD ⟨4,k,n,key,[]⟩) w):=by
 obtain⟨b0,aU⟩:∃ b,b=w.heap.size:=⟨_,rfl⟩
 obtain⟨wa,aP⟩:∃ wa,wa=(w.alloc (.cells #[.string k,.string n,.string key] 187)).alloc (.cells #[.int .i64 0,.string {data:=#[]},.string {data:=#[]},.string {data:=#[]},.slice none 0 0] 37):=⟨_,rfl⟩
 have HB:Hid (Bel w wa):=by show Below _ _ _;rw[aP];exact af (af zR _) _
 have HX:Hid (au wa b0 [.string k,.string n,.string key]):=by show au _ _ _;rw[aP,aU];exact(au.new w #[.string k,.string n,.string key] _ _ rfl).eO _
 have HO:Hid (aN wa (b0+1) 37 5):=by show aN _ _ _ _;rw[aP];exact aN.eL _ _ _ _ _ rfl (by simp[aU])
 have HZ:=uh aU;go_enter Tryz.func219,Tryz.ntmps219
 go_upto_region 1 with fail
 rw[← aP,← aU];clear aP aU;have x0:=HX.out.get 0 _ rfl;have x1:=HX.out.get 1 _ rfl;have x2:=HX.out.get 2 _ rfl;have xl:=HX.out.lt;have ol:=HO.out.lt;have bJ:wa.there (b0+1) 0 (#[.int .i64 4,.string k,.string n,.string key,.slice none 0 0]:Array Value).size:=aX HO.out _ _ (by simp);obtain⟨we,aZ⟩:∃ we,we=wa.setCells (b0+1) 0 [.int .i64 4,.string k,.string n,.string key,.slice none 0 0]:=⟨_,rfl⟩
 have dP:we.rangeAt (b0+1) 0 [.int .i64 4,.string k,.string n,.string key,.slice none 0 0]:=by rw[aZ];exact World.rangeAt_setCells_same _ _ _ _ bJ
 have fm:Hid (Bel w we):=by show Below _ _ _;rw[aZ];exact bW (by have:=HZ.out;omega) _ _ _ HB.out
 go_wp2_with (refine wpList_store_mid rfl 37 _ _ rfl (b0+1) 0 #[.int .i64 4,.string k,.string n,.string key,.slice none 0 0] rfl rfl bJ (by kernel_rfl) (by simp[Value.oneCell']) ?_)
 first|rw[← aZ]|(simp only[Xi];rw[← aZ])
 try simp only[Act.put]
 refine bodyPost_ret (v:=.agg #[.int .i64 4,.string k,.string n,.string key,.slice none 0 0]) (by simp[results,Tryz.results219,asAddr,run_loadVar_mid (P:=Tryz.prog) _ _ _ 37 [.int .i64 4,.string k,.string n,.string key,.slice none 0 0] _ dP Tryz.underlying37 rfl (by kernel_rfl)]) rfl ?_;exact⟨[.int .i64 4,.string k,.string n,.string key,.slice none 0 0],[]++[],rfl,bZ _ _ _ _ (.emp _ _ none rfl .nil),by simp,by simp,fm.out⟩
theorem uZ (k n:ByteArray) (l:List Pl.Ln) (la:Option Addr) (c:Nat) (w:World) (h:Raw w aV [bD l] [.slice la l.length c]) (hl:l.length≤4194304) (hw:∀ x∈l,x.ws.length≤4194304):Calls Tryz.prog 207 #[.agg #[.string k,.string n,.slice la l.length c]] w (Ans aH (chD ⟨2,k,n,Pl.aJ,l⟩) w):=by
 obtain⟨b0,aU⟩:∃ b,b=w.heap.size:=⟨_,rfl⟩
 obtain⟨wa,aP⟩:∃ wa,wa=(w.alloc (.cells #[.string k,.string n,.slice la l.length c] 154)).alloc (.cells #[.int .i64 0,.string {data:=#[]},.string {data:=#[]},.string {data:=#[]},.slice none 0 0] 37):=⟨_,rfl⟩
 have HB:Hid (Bel w wa):=by show Below _ _ _;rw[aP];exact af (af zR _) _
 have HX:Hid (au wa b0 [.string k,.string n,.slice la l.length c]):=by show au _ _ _;rw[aP,aU];exact(au.new w #[.string k,.string n,.slice la l.length c] _ _ rfl).eO _
 have HO:Hid (aN wa (b0+1) 37 5):=by show aN _ _ _ _;rw[aP];exact aN.eL _ _ _ _ _ rfl (by simp[aU])
 have ZA:Hid (wa.heap.size=b0+2):=by show _=_;rw[aP];simp[aU]
 have HZ:=uh aU;have HC:=uh (fun (X:World) (hX:Bel wa X)=>ng l (.slice la l.length c) X ((h.later HB.out).later hX) hl hw);clear h hl hw;go_enter Tryz.func207,Tryz.ntmps207
 go_upto_region 1 with fail
 rw[← aP,← aU];clear aP aU;refine RY.lk wa zR (VJn b0 c wa.heap.size la k n l) (G5 _ _ _ _ _ _ _) (fun _ W'=>∃ y1 y2 F,W'.rangeAt (b0+1) 0 [.int .i64 2,.string k,.string n,.string {data:=#[]},.slice y1 l.length y2]∧Rep W' false aV F [bD l] [.slice y1 l.length y2]∧F.Nodup∧(∀ z∈F,wa.heap.size≤z)∧Bel w W') 10 12 (by kernel_rfl) (by kernel_rfl) (by kernel_rfl) (by kernel_rfl) rfl [9] (by kernel_rfl) (by kernel_rfl) _ rfl rfl (by kernel_rfl) ?_ ?_ ?_
 ·intro ii o' ho wJ a X hX hk hd;have zb0:=HX.out.later hX;have zb0l:=zb0.lt;match ii,ho with
  |0,rfl|3,rfl=>
   exact RY.p (.pointer (some ⟨b0,0,none⟩)) (by simp[execOp,go_sem,RY.K hk 1 (.pointer (some ⟨b0,0,none⟩))])
  |1,rfl=>
   exact RY.p (.pointer (some ⟨b0,0,none⟩)) (by simp[execOp,go_sem,RY.E1 hd 0 3])
  |2,rfl=>
   have e4:=RY.E1 hd 1 4;have ycl_:=zb0.get 0 _ rfl;exact RY.p (.string k) (by simp[execOp,go_sem,e4,ycl_])
  |4,rfl=>
   exact RY.p (.pointer (some ⟨b0,1,none⟩)) (by simp[execOp,go_sem,RY.E1 hd 3 6])
  |5,rfl=>
   have e7:=RY.E1 hd 4 7;have ycl_:=zb0.get 1 _ rfl;exact RY.p (.string n) (by simp[execOp,go_sem,e7,ycl_])
  |6,rfl=>
   exact RY.p (.pointer (some ⟨b0,2,none⟩)) (by simp[execOp,go_sem,RY.K hk 1 (.pointer (some ⟨b0,0,none⟩))])
  |7,rfl=>
   have e9:=RY.E1 hd 6 9;have ycl_:=zb0.get 2 _ rfl;exact RY.p (.slice la l.length c) (by simp[execOp,go_sem,e9,ycl_])
  |8,rfl=>
   have e10:=RY.E1 hd 7 10;refine Xk ⟨107,#[.slice la l.length c,.func (.func 108) #[] #[]],by simp[go_sem,e10],(HC.out X hX).mono ?_⟩;rintro e W' ⟨v,F,rfl,r,nd,fr,hb⟩;obtain⟨x1,x2,hx⟩:=r.raw.aT;subst hx;exact⟨_,rfl,hb,x1,x2,F,rfl,r,nd,fun z hz=>Xg hX.size (fr z hz)⟩
  |9,rfl=>
   have e5:=RY.E1 hd 2 5;have e8:=RY.E1 hd 5 8;obtain⟨y1,y2,F11,q11,Vg,WB,Uk⟩:=hd 8 _ 11 rfl rfl ⟨⟨8,.data⟩,by simp,rfl,rfl⟩ (by decide);have e11:a.tmps[11]?.getD undef=.slice y1 l.length y2:=(RY.ai a 11).trans q11;exact No ⟨_,X,by simp[execOp,go_sem,e5,e8,e11],zR,y1,y2,F11,rfl,Vg,WB,Uk⟩
  |n+10,ho=>omega
 ·intro a X vals hX hk hV hd;obtain⟨y1,y2,F,e1,hR,hN,hF⟩:=hV 9 (by decide);have e2:a.eval (.tmp 12)=_:=(hd 9 _ 12 rfl rfl ⟨⟨9,.data⟩,by simp,rfl,rfl⟩ (by decide)).trans e1;have t5:a.eval (.tmp 2)=.pointer (some ⟨b0+1,0,none⟩):=(hk 2 (by kernel_rfl)).trans rfl;have hO:=HO.out.later hX;have bJ:X.there (b0+1) 0 5:=aX hO _ _ (by simp);have hm:Marks (fun z=>z=b0+1) X (X.setCells (b0+1) 0 [.int .i64 2,.string k,.string n,.string {data:=#[]},.slice y1 l.length y2]):=bf (S:=fun z=>z=b0+1) rfl _ _ _;exact⟨X.setCells (b0+1) 0 [.int .i64 2,.string k,.string n,.string {data:=#[]},.slice y1 l.length y2],RY.dM _ _ _ rfl t5 e2 bJ (by kernel_rfl) (by simp[Value.oneCell']),y1,y2,F,World.rangeAt_setCells_same _ _ _ _ bJ,hR.cO hm (fun z hz e=>by have:=hF z hz;have:=ZA.out;omega),hN,hF,hm.below (fun z e=>by have:=HZ.out;omega) (ae HB.out hX)⟩
 ·intro vals vs X hK bn;simp only[RY.aC,Act.put,so,As,An];generalize vs 3=s3,vs 4=s4,vs 5=s5,vs 6=s6,vs 7=s7,vs 8=s8,vs 9=s9,vs 10=s10,vs 11=s11,vs 12=s12;clear bn;obtain⟨y1,y2,F,dP,hR,hN,hF,hB⟩:=hK;try go_wp2
  try simp only[Act.put]
  refine bodyPost_ret (v:=.agg #[.int .i64 2,.string k,.string n,.string {data:=#[]},.slice y1 l.length y2]) (by simp[results,Tryz.results207,asAddr,run_loadVar_mid (P:=Tryz.prog) _ _ _ 37 [.int .i64 2,.string k,.string n,.string {data:=#[]},.slice y1 l.length y2] _ dP Tryz.underlying37 rfl (by kernel_rfl)]) rfl ?_;exact⟨[.int .i64 2,.string k,.string n,.string {data:=#[]},.slice y1 l.length y2],F++[],rfl,bZ _ _ _ _ hR,by rw[Xl];exact hN,fun z hz=>by rw[Xl]at hz;have:=hF z hz;have:=ZA.out;have:=HZ.out;omega,hB⟩
theorem vm (k n key:ByteArray) (l:List Pl.Ln) (la:Option Addr) (c:Nat) (w:World) (h:Raw w aV [bD l] [.slice la l.length c]) (hl:l.length≤4194304) (hw:∀ x∈l,x.ws.length≤4194304):Calls Tryz.prog 220 #[.agg #[.string k,.string n,.string key,.slice la l.length c]] w (Ans aH (chD ⟨3,k,n,key,l⟩) w):=by
 obtain⟨b0,aU⟩:∃ b,b=w.heap.size:=⟨_,rfl⟩
 obtain⟨wa,aP⟩:∃ wa,wa=(w.alloc (.cells #[.string k,.string n,.string key,.slice la l.length c] 189)).alloc (.cells #[.int .i64 0,.string {data:=#[]},.string {data:=#[]},.string {data:=#[]},.slice none 0 0] 37):=⟨_,rfl⟩
 have HB:Hid (Bel w wa):=by show Below _ _ _;rw[aP];exact af (af zR _) _
 have HX:Hid (au wa b0 [.string k,.string n,.string key,.slice la l.length c]):=by show au _ _ _;rw[aP,aU];exact(au.new w #[.string k,.string n,.string key,.slice la l.length c] _ _ rfl).eO _
 have HO:Hid (aN wa (b0+1) 37 5):=by show aN _ _ _ _;rw[aP];exact aN.eL _ _ _ _ _ rfl (by simp[aU])
 have ZA:Hid (wa.heap.size=b0+2):=by show _=_;rw[aP];simp[aU]
 have HZ:=uh aU;have HC:=uh (fun (X:World) (hX:Bel wa X)=>ng l (.slice la l.length c) X ((h.later HB.out).later hX) hl hw);clear h hl hw;go_enter Tryz.func220,Tryz.ntmps220
 go_upto_region 1 with fail
 rw[← aP,← aU];clear aP aU;refine RY.lk wa zR (VJs b0 c wa.heap.size la k n key l) (Gf _ _ _ _ _ _ _ _) (fun _ W'=>∃ y1 y2 F,W'.rangeAt (b0+1) 0 [.int .i64 3,.string k,.string n,.string key,.slice y1 l.length y2]∧Rep W' false aV F [bD l] [.slice y1 l.length y2]∧F.Nodup∧(∀ z∈F,wa.heap.size≤z)∧Bel w W') 12 12 (by kernel_rfl) (by kernel_rfl) (by kernel_rfl) (by kernel_rfl) rfl [11] (by kernel_rfl) (by kernel_rfl) _ rfl rfl (by kernel_rfl) ?_ ?_ ?_
 ·intro ii o' ho wJ a X hX hk hd;have zb0:=HX.out.later hX;have zb0l:=zb0.lt;match ii,ho with
  |0,rfl|3,rfl=>
   exact RY.p (.pointer (some ⟨b0,0,none⟩)) (by simp[execOp,go_sem,RY.K hk 1 (.pointer (some ⟨b0,0,none⟩))])
  |1,rfl=>
   exact RY.p (.pointer (some ⟨b0,0,none⟩)) (by simp[execOp,go_sem,RY.E1 hd 0 3])
  |2,rfl=>
   have e4:=RY.E1 hd 1 4;have ycl_:=zb0.get 0 _ rfl;exact RY.p (.string k) (by simp[execOp,go_sem,e4,ycl_])
  |4,rfl=>
   exact RY.p (.pointer (some ⟨b0,1,none⟩)) (by simp[execOp,go_sem,RY.E1 hd 3 6])
  |5,rfl=>
   have e7:=RY.E1 hd 4 7;have ycl_:=zb0.get 1 _ rfl;exact RY.p (.string n) (by simp[execOp,go_sem,e7,ycl_])
  |6,rfl=>
   exact RY.p (.pointer (some ⟨b0,2,none⟩)) (by simp[execOp,go_sem,RY.K hk 1 (.pointer (some ⟨b0,0,none⟩))])
  |7,rfl=>
   have e9:=RY.E1 hd 6 9;have ycl_:=zb0.get 2 _ rfl;exact RY.p (.string key) (by simp[execOp,go_sem,e9,ycl_])
  |8,rfl=>
   exact RY.p (.pointer (some ⟨b0,3,none⟩)) (by simp[execOp,go_sem,RY.K hk 1 (.pointer (some ⟨b0,0,none⟩))])
  |9,rfl=>
   have e11:=RY.E1 hd 8 11;have ycl_:=zb0.get 3 _ rfl;exact RY.p (.slice la l.length c) (by simp[execOp,go_sem,e11,ycl_])
  |10,rfl=>
   have e12:=RY.E1 hd 9 12;refine Xk ⟨107,#[.slice la l.length c,.func (.func 108) #[] #[]],by simp[go_sem,e12],(HC.out X hX).mono ?_⟩;rintro e W' ⟨v,F,rfl,r,nd,fr,hb⟩;obtain⟨x1,x2,hx⟩:=r.raw.aT;subst hx;exact⟨_,rfl,hb,x1,x2,F,rfl,r,nd,fun z hz=>Xg hX.size (fr z hz)⟩
  |11,rfl=>
   have e5:=RY.E1 hd 2 5;have e8:=RY.E1 hd 5 8;have e10:=RY.E1 hd 7 10;obtain⟨y1,y2,F13,q13,VS,Vl,Uq⟩:=hd 10 _ 13 rfl rfl ⟨⟨10,.data⟩,by simp,rfl,rfl⟩ (by decide);have e13:a.tmps[13]?.getD undef=.slice y1 l.length y2:=(RY.ai a 13).trans q13;exact No ⟨_,X,by simp[execOp,go_sem,e5,e8,e10,e13],zR,y1,y2,F13,rfl,VS,Vl,Uq⟩
  |n+12,ho=>omega
 ·intro a X vals hX hk hV hd;obtain⟨y1,y2,F,e1,hR,hN,hF⟩:=hV 11 (by decide);have e2:a.eval (.tmp 14)=_:=(hd 11 _ 14 rfl rfl ⟨⟨11,.data⟩,by simp,rfl,rfl⟩ (by decide)).trans e1;have t5:a.eval (.tmp 2)=.pointer (some ⟨b0+1,0,none⟩):=(hk 2 (by kernel_rfl)).trans rfl;have hO:=HO.out.later hX;have bJ:X.there (b0+1) 0 5:=aX hO _ _ (by simp);have hm:Marks (fun z=>z=b0+1) X (X.setCells (b0+1) 0 [.int .i64 3,.string k,.string n,.string key,.slice y1 l.length y2]):=bf (S:=fun z=>z=b0+1) rfl _ _ _;exact⟨X.setCells (b0+1) 0 [.int .i64 3,.string k,.string n,.string key,.slice y1 l.length y2],RY.dM _ _ _ rfl t5 e2 bJ (by kernel_rfl) (by simp[Value.oneCell']),y1,y2,F,World.rangeAt_setCells_same _ _ _ _ bJ,hR.cO hm (fun z hz e=>by have:=hF z hz;have:=ZA.out;omega),hN,hF,hm.below (fun z e=>by have:=HZ.out;omega) (ae HB.out hX)⟩
 ·intro vals vs X hK bn;simp only[RY.aC,Act.put,so,As,An];generalize vs 3=s3,vs 4=s4,vs 5=s5,vs 6=s6,vs 7=s7,vs 8=s8,vs 9=s9,vs 10=s10,vs 11=s11,vs 12=s12,vs 13=s13,vs 14=s14;clear bn;obtain⟨y1,y2,F,dP,hR,hN,hF,hB⟩:=hK;try go_wp2
  try simp only[Act.put]
  refine bodyPost_ret (v:=.agg #[.int .i64 3,.string k,.string n,.string key,.slice y1 l.length y2]) (by simp[results,Tryz.results220,asAddr,run_loadVar_mid (P:=Tryz.prog) _ _ _ 37 [.int .i64 3,.string k,.string n,.string key,.slice y1 l.length y2] _ dP Tryz.underlying37 rfl (by kernel_rfl)]) rfl ?_;exact⟨[.int .i64 3,.string k,.string n,.string key,.slice y1 l.length y2],F++[],rfl,bZ _ _ _ _ hR,by rw[Xl];exact hN,fun z hz=>by rw[Xl]at hz;have:=hF z hz;have:=ZA.out;have:=HZ.out;omega,hB⟩
theorem NF {B W:World} {c:Pl.Ch} {u:Value} (h:EdV B W c u) (hb:Bel B W) (hl:c.lines.length≤4194304) (hw:∀ x∈c.lines,x.ws.length≤4194304):
  ∃ iv,(u=.iface 151 iv∧(∀ X,(method 392 151 iv "loop.example/wharfdesk/impl.told").run Tryz.prog X=.ok (206,iv) X)∧Calls Tryz.prog 206 #[iv] W (Ans aH (chD c) W))∨(u=.iface 154 iv∧(∀ X,(method 392 154 iv "loop.example/wharfdesk/impl.told").run Tryz.prog X=.ok (207,iv) X)∧Calls Tryz.prog 207 #[iv] W (Ans aH (chD c) W))∨(u=.iface 189 iv∧(∀ X,(method 392 189 iv "loop.example/wharfdesk/impl.told").run Tryz.prog X=.ok (220,iv) X)∧Calls Tryz.prog 220 #[iv] W (Ans aH (chD c) W))∨(u=.iface 187 iv∧(∀ X,(method 392 187 iv "loop.example/wharfdesk/impl.told").run Tryz.prog X=.ok (219,iv) X)∧Calls Tryz.prog 219 #[iv] W (Ans aH (chD c) W)):=by
 cases h with
 |gone k n=>exact⟨_,No ⟨rfl,fun X=>by kernel_rfl,sU k n W⟩⟩
 |new k n l a c h=>exact⟨_,Xk (No ⟨rfl,fun X=>by kernel_rfl,uZ k n l a c W (h.later hb) hl hw⟩)⟩
 |set k n key l a c xs h hr=>exact⟨_,Xk (Xk (No ⟨rfl,fun X=>by kernel_rfl,vm k n key l a c W (zQ h hr hb) hl hw⟩))⟩
 |unset k n key=>exact⟨_,Xk (Xk (Xk ⟨rfl,fun X=>by kernel_rfl,rM k n key W⟩))⟩
theorem zM (a b:List Pl.Bl) (wR:∀ z∈b,z.lines.length≤4194304∧∀ x∈z.lines,x.ws.length≤4194304):∀ c∈(a.filter (Pl.je b)).map Pl.dO++b.flatMap (Pl.bR a),c.lines.length≤4194304∧∀ x∈c.lines,x.ws.length≤4194304:=by
 intro c hc;rcases XC.1 hc with h|h
 ·obtain⟨x,_,rfl⟩:=YA.1 h;exact⟨by show (0:Nat)≤_;omega,fun x hx=>by cases hx⟩
 ·obtain⟨y,hy,h⟩:=List.mem_flatMap.1 h;have hz:=wR y hy;unfold Pl.bR at h;split at h
  ·obtain rfl:=Yc.1 h;exact hz
  ·obtain⟨r,_,h⟩:=List.mem_flatMap.1 h;unfold Pl.dh at h;split at h
   ·cases h
   ·obtain rfl:=Yc.1 h;exact⟨Xg (Pl.gG _ _) hz.1,fun x hx=>hz.2 x (YD.1 hx).1⟩
theorem sV (a b:List Pl.Bl) (ha:a.length≤60) (hb:b.length≤60):((a.filter (Pl.je b)).map Pl.dO++b.flatMap (Pl.bR a)).length≤800:=by
 have:=lT a b ha b.length hb zE;unfold cE at this;rw[YG]at this;exact this
theorem Tryz.zW:Tryz.prog.underlying 32=some (.slice 37):=by kernel_rfl
theorem Tryz.Hg:(Tryz.prog.info? 37).map (fun i=>(i.zero,i.size,i.bytes))=some (some (.agg #[.int .i64 0,.string {data:=#[]},.string {data:=#[]},.string {data:=#[]},.slice none 0 0]),5,80):=by kernel_rfl
theorem Ae (a b:List Pl.Bl) (av bv:Value) (w:World) (ha:Raw w bL [cq a] [av]) (hb:Raw w bL [cq b] [bv]) (hza:oi a) (hzb:oi b) (hla:∀ z∈a,z.lines.length≤4194304∧∀ x∈z.lines,x.ws.length≤4194304) (wR:∀ z∈b,z.lines.length≤4194304∧∀ x∈z.lines,x.ws.length≤4194304):
  Calls Tryz.prog 32 #[.agg #[av],.agg #[bv]] w (eT fq (kK (Pl.bY a b)) w):=by
 obtain⟨aa,ac,rfl⟩:=ha.aT;obtain⟨ba,bc,rfl⟩:=hb.aT;have HA:=uh ha;have HB:=uh hb;have TJ:=uh hza;have AN:=uh hzb;have JQ:=uh hla;have tq:=uh wR;have sj:Hid (Pl.bY a b=if Pl.bw a&&Pl.bw b then (a.filter (Pl.je b)).map Pl.dO++b.flatMap (Pl.bR a) else []):=rfl;clear ha hb hza hzb hla wR;obtain⟨na,IW⟩:∃ n,n=a.length:=⟨_,rfl⟩
 obtain⟨nb,p5⟩:∃ n,n=b.length:=⟨_,rfl⟩
 have uO:=uh IW;have kt:=uh p5;have e1:a.length=na:=IW.symm;have e2:b.length=nb:=p5.symm;clear IW p5;rw[e1,e2];clear e1 e2;obtain⟨b0,aU⟩:∃ b,b=w.heap.size:=⟨_,rfl⟩
 obtain⟨wa,aP⟩:∃ wa,wa=(w.alloc (.cells #[.slice aa na ac] 26)).alloc (.cells #[.slice ba nb bc] 26):=⟨_,rfl⟩
 have kv:Hid (Bel w wa):=by show Below _ _ _;rw[aP];exact af (af zR _) _
 have yM:Hid (au wa b0 [.slice aa na ac]):=by show au _ _ _;rw[aP,aU];exact(au.new w #[.slice aa na ac] _ _ rfl).eO _
 have Ef:Hid (au wa (b0+1) [.slice ba nb bc]):=by show au _ _ _;rw[aP];exact au.new _ #[.slice ba nb bc] _ _ (by simp[aU])
 have OA:Hid (Raw wa bL [cq a] [.slice aa na ac]):=by show Raw _ _ _ _;rw[uO.out];exact HA.out.later kv.out
 have fm:Hid (Raw wa bL [cq b] [.slice ba nb bc]):=by show Raw _ _ _ _;rw[kt.out];exact HB.out.later kv.out
 go_enter Tryz.func32,Tryz.ntmps32
 go_upto_region 1 with fail
 rw[← aP,← aU];clear aP aU HA HB;have xa:=yM.out.at_;have xal:=yM.out.lt;have AA:=uh (kE a (.slice aa na ac) wa OA.out TJ.out);obtain⟨v1,h9⟩:∃ x,x=Pl.bw a:=⟨_,rfl⟩
 obtain⟨v2,iH⟩:∃ x,x=Pl.bw b:=⟨_,rfl⟩
 have HVA:=uh h9;have Uo:=uh iH;rw[← h9]at AA sj;rw[← iH]at sj;clear h9 iH;go_wp2_with (refine wpList_load_mid rfl 26 _ rfl b0 0 rfl [.slice aa na ac] _ xa Tryz.underlying26 rfl (by kernel_rfl) ?_)
 refine AA.out.mono ?_;rintro e w2 ⟨rfl,dD⟩;have eM:=uh (ae kv.out dD);have HA2:=uh (yM.out.later dD);have kY:=uh (Ef.out.later dD);have RB:=uh dD;clear dD AA xa xal;have sG:Hid (∀ X,Bel w X→Pl.bY a b=[]→eT fq (kK (Pl.bY a b)) w (.returned (.slice none 0 0)) X):=fun X hX he=>by
  rw[he];exact⟨_,[],rfl,.emp _ _ _ rfl .nil,XL,by simp,hX⟩
 cases v1
 ·have HX:=uh (sG.out w2 eM.out sj.out);clear sG;go_wp2;go_ret;exact HX.out
 have xb:=kY.out.at_;have xbl:=kY.out.lt;have R6:Hid (Calls Tryz.prog 52 #[.agg #[.slice ba nb bc]] w2 fun e w'=>e=.returned (.bool v2)∧Bel w2 w'):=by rw[Uo.out];exact kE b (.slice ba nb bc) w2 (fm.out.later RB.out) AN.out
 go_wp2_with (refine KH (by kernel_rfl) 26 _ rfl (b0+1) 0 rfl [.slice ba nb bc] _ xb Tryz.underlying26 rfl (by kernel_rfl) ?_)
 refine R6.out.mono ?_;rintro e w3 ⟨rfl,ku⟩;have pG:=uh (ae eM.out ku);have HA3:=uh (HA2.out.later ku);have HC3:=uh (kY.out.later ku);have SL:=uh (ae RB.out ku);clear ku R6 xb xbl;cases v2
 ·have HX:=uh (sG.out w3 pG.out sj.out);clear sG;go_wp2;go_ret;exact HX.out
 clear sG;replace sj:Hid (Pl.bY a b=(a.filter (Pl.je b)).map Pl.dO++b.flatMap (Pl.bR a)):=sj.out
 have LQ:=uh (zM a b tq.out);have kB:=uh (sV a b (Pl.fh HVA.out.symm) (Pl.fh Uo.out.symm));have Lr:=uh (wW a b (.slice aa na ac) (.slice ba nb bc) w3 (OA.out.later SL.out) (fm.out.later SL.out) HVA.out.symm Uo.out.symm TJ.out AN.out (fun z hz=>(JQ.out z hz).1) (fun z hz=>(tq.out z hz).1));obtain⟨L,hL⟩:∃ L,L=(a.filter (Pl.je b)).map Pl.dO++b.flatMap (Pl.bR a):=⟨_,rfl⟩
 rw[← hL]at Lr LQ kB sj;clear hL;have x0:=HA3.out.get 0 _ rfl;have xl:=HA3.out.lt;have y0:=HC3.out.get 0 _ rfl;have yl:=HC3.out.lt;go_wp2_with fail
 refine Lr.out.mono ?_;rintro e wk ⟨ve,xs,rfl,hE,PI⟩;obtain⟨ea,ec,hee⟩:=hE.shape;subst hee;have HE:=uh hE;have zh:=uh (ae pG.out PI);have y7:=uh PI;obtain⟨n,hn⟩:∃ n,n=L.length:=⟨_,rfl⟩
 have HN:=uh hn;rw[← hn]at HE ⊢;have hnl:n≤800:=by rw[hn];exact kB.out
 clear hE PI Lr x0 xl y0 yl hn;go_wp2;go_loopw [5,22] (fun vv i wr=>∃ (q:Nat) (F:List Nat),q≤n∧i=.int .i64 q∧Rep wr false fq F [.row q ((L.take q).flatMap chD)] [vv]∧F.Nodup∧(∀ b∈F,wk.heap.size≤b)∧Bel wk wr) (fun _ i _=>n - (intOf i).toNat)
 case atStart=>exact⟨0,[],zN,rfl,.emp _ _ _ rfl .nil,XL,by simp,zR⟩
 case round=>
  obtain⟨q,F2,hq,rfl,hR,Mo,hF,hB⟩:=hrel;have gR:=uh hR;have fS:=uh (Xt Mo hF);have IF:=uh hB;obtain⟨va2,vc2,Ca⟩:=hR.raw.aT;subst Ca;clear hR Mo hF hB;by_cases bq:q<n
  rotate_left
  ·obtain rfl:q=n:=by omega
   have tB:¬ ((q:Int)<(q:Int)):=by omega
   have Rk:Hid (Rep wr false fq F2 [kK (Pl.bY a b)] [.slice va2 q vc2]):=by
    have h5:=gR.out;rw[Xp (by have:=HN.out;omega)]at h5;show Rep _ _ _ _ _ _;rw[sj.out];unfold kK;rw[← HN.out];exact h5
   go_wp2;go_ret;exact⟨_,F2,rfl,Rk.out,fS.out.1,fun z hz=>Xg zh.out.size (fS.out.2 z hz),ae zh.out IF.out⟩
  have kz:q<L.length:=by have:=HN.out;omega
  have Ij:=uh (HE.out.later IF.out).src;have TE:=Ij.out.els q kz;rcases Ij.out.at_ with⟨e0,_⟩|⟨p,o,c,hv,hp,hc⟩
  ·omega
  rw[← HN.out]at hv;injection hv with g1 _ g3
  subst g1;subst g3;have hqx:q<xs.length:=by have:=Ij.out.len;omega
  have H8:=hc q (xs.getD q .nilIface) (by simp[hqx]);obtain⟨u0,hu0⟩:∃ z,z=xs.getD q .nilIface:=⟨_,rfl⟩
  rw[← hu0]at TE H8;have kc:=uh (Pl.cp Pl.ie L q kz);have WV:Hid (L.getD q Pl.ie∈L):=by
   show _∈_;have e:L.getD q Pl.ie=L[q]:=by simp[kz]
   rw[e];exact Xq kz
  obtain⟨ch,DO⟩:∃ z,z=L.getD q Pl.ie:=⟨_,rfl⟩
  rw[← DO]at TE kc WV;obtain⟨iv,IN⟩:=NF TE (ae y7.out IF.out) (LQ.out ch WV.out).1 (LQ.out ch WV.out).2;have lG:(0:Int)≤(q:Int):=by omega
  have tg:(q:Int)<(n:Int):=by omega
  clear DO TE hc hqx Ij hu0;rcases IN with⟨hu,Cl,sq⟩|⟨hu,Cl,sq⟩|⟨hu,Cl,sq⟩|⟨hu,Cl,sq⟩
  all_goals
   subst hu;have HC:=uh sq;clear sq;go_wp2_with fail
   refine HC.out.mono ?_;rintro e w1 ⟨cc,FV,rfl,rep,nd,fr,hb⟩;obtain⟨F3,v3,rfl,rfl,r3⟩:=rz rep;obtain⟨a1,m1,wC⟩:=r3.raw.aT;subst wC;clear r3;have Jh:Hid ((F3++[]).Nodup∧∀ b∈F3++[],wr.heap.size≤b):=⟨nd,fr⟩
   have S7:Hid (∀ b∈F2,b<wr.heap.size):=gR.out.lt;have SU:=uh rep;have K3:=uh (ae IF.out hb);replace gR:=uh (gR.out.later hb)
   have Cm:Hid (wr.heap.size≤w1.heap.size∧wk.heap.size≤wr.heap.size):=⟨hb.size,IF.out.size⟩
   clear HC rep nd fr hb H8 Cl;obtain⟨wb,fa⟩:∃ wb,wb=w1.alloc (.cells #[.int .i64 ch.what,.string ch.kind,.string ch.name,.string ch.key,.slice a1 ch.lines.length m1] 37):=⟨_,rfl⟩
   have dG:Bel w1 wb:=by rw[fa];exact af zR _
   obtain⟨v',x3,F4,row,bC,rep,nd,jM,eC,ke⟩:=mc (P:=Tryz.prog) 32 32 37 5 80 _ Tryz.zW Tryz.Hg rfl (by decide) aH rfl wb (gR.out.later dG) fS.out.1 (by omega) (F':=F3++[]) (d:=chD ch) (c':=[.int .i64 ch.what,.string ch.kind,.string ch.name,.string ch.key,.slice a1 ch.lines.length m1]) ⟨w1.heap.size,0,none⟩ (SU.out.later dG) Jh.out.1 (fun b hb e=>by have:=Jh.out.2 b hb;have:=S7.out b e;omega) (by rw[fa];exact qP w1 #[.int .i64 ch.what,.string ch.kind,.string ch.name,.string ch.key,.slice a1 ch.lines.length m1] 37);obtain⟨wx,wc,wg⟩:=rep.raw.aT;subst wg;rw[fa]at bC;have U0:Hid (Bel wk x3):=dF (ae K3.out dG) eC (fun b e=>fS.out.2 b (ke b e));have Q1:Hid (∀ b∈F4,wk.heap.size≤b):=fun b hb=>by
    rcases jM b hb with e|e|e
    ·exact fS.out.2 b e
    ·have:=Jh.out.2 b e;have:=Cm.out.2;omega
    ·have:=dG.size;have:=Cm.out;omega
   have Rx:Hid (Rep x3 false fq F4 [.row (q+1) ((L.take (q+1)).flatMap chD)] [.slice wx (q+1) wc]):=by
    show Rep _ _ _ _ _ _;rw[kc.out,Xv,XE];exact rep
   have Q6:Hid F4.Nodup:=nd;clear rep nd jM eC ke dG fa;go_wp2_with (at_builtin;refine Go.Lib.wpList_append_run _ rfl _ _ 32 32 rfl _ _ rfl rfl _ x3 bC ?_)
   clear bC gR fS;go_roundw
   case rel=>exact⟨q+1,F4,by omega,by go_num,Rx.out,Q6.out,Q1.out,U0.out⟩
   case measure=>simp[intOf];omega
end Go.Proofs.YtgiglpnaekbegaaGreatDoor
