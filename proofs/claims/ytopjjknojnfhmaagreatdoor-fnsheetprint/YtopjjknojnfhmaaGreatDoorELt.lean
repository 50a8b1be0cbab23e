import Derived.Maps.AppendAt
import Derived.Laws.OwnMore
import Derived.Test.YtopjjknojnfhmaaGreatDoorRgFs
import Derived.Test.YtopjjknojnfhmaaGreatDoorEPt
import Derived.Test.YtopjjknojnfhmaaGreatDoorECl
import Derived.Test.YtopjjknojnfhmaaGreatDoorELa
import Derived.Test.YtopjjknojnfhmaaGreatDoorRgG
namespace Go.Proofs.YtopjjknojnfhmaaGreatDoor
open Go.RowKit Go.Deep
namespace RY
def DD (v:World) (t:TypeId) (size:Nat) (W:World) (r u:Value) (n:Nat) (xs:List Value) (W':World):Prop:=W'.ownsRow v.heap.size t size u n xs∧W.grownBy W' r.ownBlock∧(u.ownBlock=r.ownBlock∨u.ownBlock=some W.heap.size)
structure TI (v:World) (t:TypeId) (size n5 n8 n13:Nat) (x5 x8 x13:List Value) (nw:Array Value) (K:Value→World→Prop) (u0 u5 u7 u8 u13 u15:Bool) (v0 v5 v7 v8 v13:Value) (W:World):Prop where
 bel:u15=false→Bel v W
 c0:u0=true→u5=false→W.ownsRow v.heap.size t size v0 0 []
 c5:u5=true→u8=false→W.ownsRow v.heap.size t size v5 n5 x5
 c8:u8=true→u13=false→W.ownsRow v.heap.size t size v8 n8 x8
 c13:u13=true→u15=false→W.ownsRow v.heap.size t size v13 n13 x13
 c7:u7=true→u8=false→∃ q,v7=.slice (some ⟨q,0,none⟩) 1 1∧W.heap[q]? =some (.cells nw t (0,0))∧(u0=true→u5=false→v0.ownBlock≠some q)∧(u5=true→v5.ownBlock≠some q)
 c15:u15=true→K v13 W
theorem sC {v W W':World} {t:TypeId} {size n m:Nat} {r u:Value} {xs ys:List Value} (h:Bel v W) (ho:W.ownsRow v.heap.size t size r m ys) (ha:DD v t size W r u n xs W'):Bel v W':=
 mr h ha.2.1 fun _ hb=>(bI ho hb).1
theorem Cp {W W':World} {row:Option Nat} {q:Nat} {o:Obj} (hg:W.grownBy W' row) (hq:W.heap[q]? =some o) (hn:row≠some q):W'.heap[q]? =some o:=
 (hg.block q (Array.getElem?_eq_some_iff.1 hq).1 fun e=>hn e.symm).trans hq
theorem iO {P:Program} {id:Nat} {Q:Exit→Act→World→Prop} {a0:Act} {w:World} {l:List Oper} (v:World) (hv:Bel v w) (t:TypeId) (size n5 n8 n13:Nat) (x5 x8 x13:List Value) (nw:Array Value) (V:Nat→Value→Prop) (K:Value→World→Prop) (fuel k0 k5 k7 k8 k13 k14:Nat)
  (hm:P.follows .mixedOrders=true) (hasc:asc .any l.toArray=true) (hap:di l=true) (dr:dK l a0.tmps.size=true)
  (hclo:((List.range 15).all fun i=>(clo l fuel [15]).contains i)=true) (hlen:l.length=16) (ks:((l.take 15).all fun o=>o.dst.isSome)=true)
  (o0 o5 o7 o8 o13 o14 o15:Oper) (q0:l[0]? =some o0) (q5:l[5]? =some o5) (q7:l[7]? =some o7) (q8:l[8]? =some o8) (q13:l[13]? =some o13) (q14:l[14]? =some o14) (q15:l[15]? =some o15)
  (d0:o0.dst=some k0) (d5:o5.dst=some k5) (d7:o7.dst=some k7) (d8:o8.dst=some k8) (d13:o13.dst=some k13) (d14:o14.dst=some k14) (d15:o15.dst=none)
  (w5:waits l 5 0=true) (w8:waits l 8 5=true) (w87:waits l 8 7=true) (wV:waits l 13 8=true) (wH:waits l 15 13=true) (yD:waits l 15 14=true)
  (hVT:∀ i u,i=0∨i=5∨i=7∨i=8∨i=13→V i u)
  (iH:∀ (i:Nat) (o:Oper),l[i]? =some o→i≠0→i≠5→i≠7→i≠8→i≠13→i≠15→∀ (a:Act) (W:World),Bel v W→(∀ k,cP l k=true→a.eval (.tmp k)=a0.eval (.tmp k))→
   (∀ (j:Nat) (o':Oper) (k:Nat),l[j]? =some o'→o'.dst=some k→(∃ e∈o.after,e.on=j∧Region.binds .any e=true)→V j (a.eval (.tmp k)))→∃ u,(execOp a.eval o).run P W=.ok (.value u) W∧V i u)
  (h0:∀ (a:Act) (W:World),(execOp a.eval o0).run P W=.ok (.value (.slice (some ⟨W.heap.size,0,none⟩) 0 0)) (W.alloc (.cells #[] t)))
  (h7:∀ (a:Act) (W:World),(∀ (j:Nat) (o':Oper) (k:Nat),l[j]? =some o'→o'.dst=some k→(∃ e∈o7.after,e.on=j∧Region.binds .any e=true)→V j (a.eval (.tmp k)))→(execOp a.eval o7).run P W=.ok (.value (.slice (some ⟨W.heap.size,0,none⟩) 1 1)) (W.alloc (.cells nw t)))
  (h5:∀ (a:Act) (W:World),Bel v W→(∀ (j:Nat) (o':Oper) (k:Nat),l[j]? =some o'→o'.dst=some k→(∃ e∈o5.after,e.on=j∧Region.binds .any e=true)→V j (a.eval (.tmp k)))→W.ownsRow v.heap.size t size (a.eval (.tmp k0)) 0 []→∃ u W',(execOp a.eval o5).run P W=.ok (.value u) W'∧DD v t size W (a.eval (.tmp k0)) u n5 x5 W')
  (h8:∀ (a:Act) (W:World),Bel v W→W.ownsRow v.heap.size t size (a.eval (.tmp k5)) n5 x5→∀ q,a.eval (.tmp k7)=.slice (some ⟨q,0,none⟩) 1 1→W.heap[q]? =some (.cells nw t (0,0))→∃ u W',(execOp a.eval o8).run P W=.ok (.value u) W'∧DD v t size W (a.eval (.tmp k5)) u n8 x8 W')
  (h13:∀ (a:Act) (W:World),Bel v W→(∀ (j:Nat) (o':Oper) (k:Nat),l[j]? =some o'→o'.dst=some k→(∃ e∈o13.after,e.on=j∧Region.binds .any e=true)→V j (a.eval (.tmp k)))→W.ownsRow v.heap.size t size (a.eval (.tmp k8)) n8 x8→∃ u W',(execOp a.eval o13).run P W=.ok (.value u) W'∧DD v t size W (a.eval (.tmp k8)) u n13 x13 W')
  (h15:∀ (a:Act) (W:World),Bel v W→V 14 (a.eval (.tmp k14))→W.ownsRow v.heap.size t size (a.eval (.tmp k13)) n13 x13→∃ W',(execOp a.eval o15).run P W=.ok .skip W'∧K (a.eval (.tmp k13)) W')
  (dt:∀ (vs:Nat→Value) (W:World),K (vs k13) W→Q .normal (aC l a0 vs) W):
  (Code.region id l.toArray true).wp P Q a0 w:=by
 have eQ:∀ {i:Nat} {o:Oper},l[i]? =some o→i<15→o.dst.isSome=true:=fun h hi=>by
  rw[List.all_eq_true]at ks;exact ks _ (List.mem_of_getElem? ((List.getElem?_take_of_lt hi).trans h))
 refine j4 V (fun up vals W=>TI v t size n5 n8 n13 x5 x8 x13 nw K (up 0) (up 5) (up 7) (up 8) (up 13) (up 15) (vals 0) (vals 5) (vals 7) (vals 8) (vals 13) W) hm hasc hap dr ?_ ?_ ?_
 ·intro vals;exact⟨fun _=>Below.drew hv,fun h=>(by cases h),fun h=>(by cases h),fun h=>(by cases h),fun h=>(by cases h),fun h=>(by cases h),fun h=>(by cases h)⟩
 ·intro up vals i o ho hi eN a W hk hd hT;have oE:∀ k,cP l k=true→a.eval (.tmp k)=a0.eval (.tmp k):=fun k h=>hk k fun j o' hj hj'=>absurd hj' (i6 h hj);have MT:∀ (j:Nat) (o':Oper) (k:Nat),l[j]? =some o'→o'.dst=some k→(∃ e∈o.after,e.on=j∧Region.binds .any e=true)→V j (a.eval (.tmp k)):=fun j o' k hj jg hw=>by
   obtain⟨_,q2,q3⟩:=hd j o' k hj jg hw;rw[q2];exact q3
  have dn:∀ {x y:Nat} {ox:Oper},l[x]? =some ox→waits l x y=true→up x=true→up y=true:=fun hx hw hu=>by
   obtain⟨e,he,h4,h5⟩:=aU hw hx;have:=eN _ _ e hx he h5 hu;rwa [h4]at this
  have yp:=dn q5 w5;have Pr:=dn q8 w8;have s87:=dn q8 w87;have Bf:=dn q13 wV;have s1513:=dn q15 wH;have nt:i<16:=by rw[← hlen];exact(List.getElem?_eq_some_iff.1 ho).1
  have Rl:i≠15→up 15=false:=fun hn=>by
   cases e:up 15
   ·rfl
   ·rw[List.all_eq_true]at hclo;have:=hclo i (List.mem_range.2 (by omega));rw[List.contains_iff_mem]at this;rw[gm eN fuel [15] (by simpa using e) i this]at hi;cases hi
  by_cases i15:i=15
  ·subst i15;obtain rfl:o=o15:=Option.some.inj (ho.symm.trans q15);obtain⟨u13,e13,_⟩:=hd 13 o13 k13 q13 d13 (by obtain⟨e,he,h4,h5⟩:=aU wH q15;exact⟨e,he,h4,h5⟩);obtain⟨u14,e14,g14⟩:=hd 14 o14 k14 q14 d14 (by obtain⟨e,he,h4,h5⟩:=aU yD q15;exact⟨e,he,h4,h5⟩);obtain⟨W',hr,hK⟩:=h15 a W (hT.bel hi) (by rw[e14];exact g14) (by rw[e13];exact hT.c13 u13 hi);have u8:=Bf u13;have u5:=Pr u8;refine Or.inr (Or.inl ⟨W',hr,d15, ?_⟩);show TI v t size n5 n8 n13 x5 x8 x13 nw K (up 0) (up 5) (up 7) (up 8) (up 13) true (vals 0) (vals 5) (vals 7) (vals 8) (vals 13) W';rw[e13]at hK;exact⟨fun h=>(by cases h),fun _ h=>(by rw[u5]at h;cases h),fun _ h=>(by rw[u8]at h;cases h),fun _ h=>(by rw[u13]at h;cases h),fun _ h=>(by cases h),fun _ h=>(by rw[u8]at h;cases h),fun _=>hK⟩
  have f15:=Rl i15;have hB:=hT.bel f15;have MS:=eQ ho (by omega);by_cases i0:i=0
  ·subst i0;obtain rfl:o=o0:=Option.some.inj (ho.symm.trans q0);have f5:up 5=false:=by cases e:up 5;rfl;rw[yp e]at hi;cases hi
   have f8:up 8=false:=by cases e:up 8;rfl;rw[Pr e]at f5;cases f5
   have f13:up 13=false:=by cases e:up 13;rfl;rw[Bf e]at f8;cases f8
   refine Or.inl ⟨_,_,h0 a W,MS,hVT 0 _ (Or.inl rfl), ?_⟩;show TI v t size n5 n8 n13 x5 x8 x13 nw K true (up 5) (up 7) (up 8) (up 13) (up 15) (.slice (some ⟨W.heap.size,0,none⟩) 0 0) (vals 5) (vals 7) (vals 8) (vals 13) (W.alloc (.cells #[] t));refine⟨fun _=>ae hB _,fun _ _=>World.ownsRow_made W #[] 0 hB.size (by decide) (by simp),fun h=> ?_,fun h=> ?_,fun h=> ?_,fun h h'=> ?_,fun h=> ?_⟩
   ·rw[f5]at h;cases h
   ·rw[f8]at h;cases h
   ·rw[f13]at h;cases h
   ·obtain⟨q,e1,e2,_,_⟩:=hT.c7 h h';have hq:=(Array.getElem?_eq_some_iff.1 e2).1;refine⟨q,e1,((ae (Below.refl W.heap.size W) _:Bel W (W.alloc (.cells #[] t))).block q hq).trans e2,fun _ _ e=> ?_,fun h=> ?_⟩
    ·have:W.heap.size=q:=by injection e
     omega
    ·rw[f5]at h;cases h
   ·rw[f15]at h;cases h
  by_cases i7:i=7
  ·subst i7;obtain rfl:o=o7:=Option.some.inj (ho.symm.trans q7);have f8:up 8=false:=by cases e:up 8;rfl;rw[s87 e]at hi;cases hi
   have f13:up 13=false:=by cases e:up 13;rfl;rw[Bf e]at f8;cases f8
   have OJ:Bel W (W.alloc (.cells nw t)):=ae zR _;refine Or.inl ⟨_,_,h7 a W MT,MS,hVT 7 _ (by omega), ?_⟩;show TI v t size n5 n8 n13 x5 x8 x13 nw K (up 0) (up 5) true (up 8) (up 13) (up 15) (vals 0) (vals 5) (.slice (some ⟨W.heap.size,0,none⟩) 1 1) (vals 8) (vals 13) (W.alloc (.cells nw t));refine⟨fun _=>ah hB OJ,fun h h'=>eA (hT.c0 h h') OJ,fun h h'=>eA (hT.c5 h h') OJ,fun h=> ?_,fun h=> ?_,fun _ _=>⟨W.heap.size,rfl,heap_alloc_new W _,fun h h' e=> ?_,fun h e=> ?_⟩,fun h=> ?_⟩
   ·rw[f8]at h;cases h
   ·rw[f13]at h;cases h
   ·have:=(bI (hT.c0 h h') e).2;omega
   ·have:=(bI (hT.c5 h f8) e).2;omega
   ·rw[f15]at h;cases h
  by_cases i5:i=5
  ·subst i5;obtain rfl:o=o5:=Option.some.inj (ho.symm.trans q5);obtain⟨u0,e0,_⟩:=hd 0 o0 k0 q0 d0 (by obtain⟨e,he,h4,h5⟩:=aU w5 q5;exact⟨e,he,h4,h5⟩);have f8:up 8=false:=by cases e:up 8;rfl;rw[Pr e]at hi;cases hi
   have f13:up 13=false:=by cases e:up 13;rfl;rw[Bf e]at f8;cases f8
   have c0:=hT.c0 u0 hi;obtain⟨u,W',hr,hA⟩:=h5 a W hB MT (by rw[e0];exact c0);rw[e0]at hA;refine Or.inl ⟨u,W',hr,MS,hVT 5 _ (by omega), ?_⟩;show TI v t size n5 n8 n13 x5 x8 x13 nw K (up 0) true (up 7) (up 8) (up 13) (up 15) (vals 0) u (vals 7) (vals 8) (vals 13) W';refine⟨fun _=>sC hB c0 hA,fun _ h=>(by cases h),fun _ _=>hA.1,fun h=> ?_,fun h=> ?_,fun h h'=> ?_,fun h=> ?_⟩
   ·rw[f8]at h;cases h
   ·rw[f13]at h;cases h
   ·obtain⟨q,e1,e2,e3,_⟩:=hT.c7 h h';have n0:=e3 u0 hi;refine⟨q,e1,Cp hA.2.1 e2 n0,fun _ h=>(by cases h),fun _ e=> ?_⟩;rcases hA.2.2 with g|g
    ·exact n0 (g ▸ e)
    ·rw[g]at e;have:=(Array.getElem?_eq_some_iff.1 e2).1;injection e with e;omega
   ·rw[f15]at h;cases h
  by_cases i8:i=8
  ·subst i8;obtain rfl:o=o8:=Option.some.inj (ho.symm.trans q8);obtain⟨u5,e5,_⟩:=hd 5 o5 k5 q5 d5 (by obtain⟨e,he,h4,h5⟩:=aU w8 q8;exact⟨e,he,h4,h5⟩);obtain⟨u7,e7,_⟩:=hd 7 o7 k7 q7 d7 (by obtain⟨e,he,h4,h5⟩:=aU w87 q8;exact⟨e,he,h4,h5⟩);have f13:up 13=false:=by cases e:up 13;rfl;rw[Bf e]at hi;cases hi
   have c5:=hT.c5 u5 hi;obtain⟨q,e1,e2,_,_⟩:=hT.c7 u7 hi;obtain⟨u,W',hr,hA⟩:=h8 a W hB (by rw[e5];exact c5) q (by rw[e7];exact e1) e2;rw[e5]at hA;refine Or.inl ⟨u,W',hr,MS,hVT 8 _ (by omega), ?_⟩;show TI v t size n5 n8 n13 x5 x8 x13 nw K (up 0) (up 5) (up 7) true (up 13) (up 15) (vals 0) (vals 5) (vals 7) u (vals 13) W';refine⟨fun _=>sC hB c5 hA,fun _ h=>(by rw[u5]at h;cases h),fun _ h=>(by cases h),fun _ _=>hA.1,fun h=> ?_,fun _ h=>(by cases h),fun h=> ?_⟩
   ·rw[f13]at h;cases h
   ·rw[f15]at h;cases h
  by_cases i13:i=13
  ·subst i13;obtain rfl:o=o13:=Option.some.inj (ho.symm.trans q13);obtain⟨u8,e8,_⟩:=hd 8 o8 k8 q8 d8 (by obtain⟨e,he,h4,h5⟩:=aU wV q13;exact⟨e,he,h4,h5⟩);have u5:=Pr u8;have c8:=hT.c8 u8 hi;obtain⟨u,W',hr,hA⟩:=h13 a W hB MT (by rw[e8];exact c8);rw[e8]at hA;refine Or.inl ⟨u,W',hr,MS,hVT 13 _ (by omega), ?_⟩;show TI v t size n5 n8 n13 x5 x8 x13 nw K (up 0) (up 5) (up 7) (up 8) true (up 15) (vals 0) (vals 5) (vals 7) (vals 8) u W';refine⟨fun _=>sC hB c8 hA,fun _ h=>(by rw[u5]at h;cases h),fun _ h=>(by rw[u8]at h;cases h),fun _ h=>(by cases h),fun _ _=>hA.1,fun _ h=>(by rw[u8]at h;cases h),fun h=> ?_⟩;rw[f15]at h;cases h
  obtain⟨u,hr,hu⟩:=iH i o ho i0 i5 i7 i8 i13 i15 a W hB oE MT;refine Or.inl ⟨u,W,hr,MS,hu, ?_⟩;have e:∀ c,c≠i→((c==i)||up c)=up c:=fun c hc=>by simp[hc]
  have e':∀ c,c≠i→(if c=i then u else vals c)=vals c:=fun c hc=>if_neg hc;show TI v t size n5 n8 n13 x5 x8 x13 nw K ((0==i)||up 0) ((5==i)||up 5) ((7==i)||up 7) ((8==i)||up 8) ((13==i)||up 13) ((15==i)||up 15) (if 0=i then u else vals 0) (if 5=i then u else vals 5) (if 7=i then u else vals 7) (if 8=i then u else vals 8) (if 13=i then u else vals 13) W;rw[e 0 (Ne.symm i0),e 5 (Ne.symm i5),e 7 (Ne.symm i7),e 8 (Ne.symm i8),e 13 (Ne.symm i13),e 15 (Ne.symm i15),e' 0 (Ne.symm i0),e' 5 (Ne.symm i5),e' 7 (Ne.symm i7),e' 8 (Ne.symm i8),e' 13 (Ne.symm i13)];exact hT
 ·intro up vals vs W qp bg hT;refine dt vs W ?_;rw[(bg 13 o13 k13 q13 d13).1];exact hT.c15 (qp 15 (by omega))
end RY
def Lst (v:World) (size:Nat) (s:Value) (m:Nat) (news:List Value):Prop:=
 (s=.slice none 0 0∧m=0∧news=[])∨(∃ ad c,s=.slice (some ad) 0 c∧m=0∧news=[])∨∃ p o c,s=.slice (some ⟨p,o,none⟩) m c∧p<v.heap.size∧v.rangeAt p o news∧news.length=m*size∧∀ u∈news,u.oneCell'=true
theorem gU {P:Program} {v W:World} (t ty e:TypeId) (i:TypeInfo) (z:Value) (size bytes:Nat) (ht:P.underlying t=some (.slice e)) (hi:P.info? e=some i) (hz:i.zero=some z) (hs:i.size=size) (ud:i.bytes=bytes) (I5:z.cells.size=size) (zv:0<size)
  {s:Value} {m:Nat} {news:List Value} (h:Lst v size s m news) (hB:Bel v W) {r:Value} {n:Nat} {xs:List Value} (ho:W.ownsRow v.heap.size e size r n xs) (h63:n+m≤maxLen) (hb:(n+m)*bytes≤140737488355328):
  ∃ u W',(Builtin.append_ #[t,t] ty #[r,s]).run P W=.ok u W'∧RY.DD v e size W r u (n+m) (xs++news) W':=by
 rcases h with⟨rfl,rfl,rfl⟩|⟨ad,c,rfl,rfl,rfl⟩|⟨p,o,c,rfl,hp,hr,hl,h1⟩
 ·refine⟨r,W,run_append_owned_none (P:=P) (w:=W) v.heap.size t ty e i size ht hi r n xs ho, ?_,⟨rfl,rfl,rfl,zE,fun _ _ _=>rfl⟩,Or.inl rfl⟩;rw[List.append_nil];exact ho
 ·obtain⟨u,W',hr,h2,h3,_,h5⟩:=run_append_own_at (P:=P) W v.heap.size t ty e i z size bytes ht hi hz hs ud I5 zv r n xs ho ad 0 c [] (by simp) (fun j u h=>by simp at h) (fun u h=>by cases h) h63 hb hB.size;exact⟨u,W',hr,h2,h3,h5⟩
 ·obtain⟨u,W',hr,h2,h3,_,h5⟩:=run_append_own_at (P:=P) W v.heap.size t ty e i z size bytes ht hi hz hs ud I5 zv r n xs ho ⟨p,o,none⟩ m c news hl (fun j u h=>by rw[Addr.add_mid];exact aB hr hp hB j u h) h1 h63 hb hB.size;exact⟨u,W',hr,h2,h3,h5⟩
theorem nZ {P:Program} {v:World} {t e:TypeId} {i:TypeInfo} {sh:List Sh} {F:List Nat} {n:Nat} {es:List Dt} {lv:Value} (ht:P.underlying t=some (.slice (P.elem t))) (hi:P.info? (P.elem t)=some i) (hs:i.size=sh.length) (h:Rep v false [.row e sh] F [.row n es] [lv]) (k:Nat) (hk:k≤n):
  ∃ s1 s2 vs G,Rep v false (bf n sh) G es vs∧(∀ b∈G,b∈F)∧Lst v sh.length s1 k (vs.take (k*sh.length))∧Lst v sh.length s2 (n - k) (vs.drop (k*sh.length))∧
   (∀ W,(Instr.slice t lv none (some (.int .i64 (k:Int))) none).run P W=.ok s1 W)∧(∀ W,(Instr.slice t lv (some (.int .i64 (k:Int))) none none).run P W=.ok s2 W):=by
 rcases h.slice with⟨_,rfl,rfl,rfl,a,rfl⟩|⟨p,o,c,u,m,G,rfl,rfl,hn,ho,_,_,vs,hr,hR⟩
 ·obtain rfl:k=0:=by omega
  refine⟨.slice a 0 0,.slice a 0 0,[],[],by rw[eK];exact .nil,by simp, ?_, ?_,fun W=> ?_,fun W=> ?_⟩
  ·cases a with
   |none=>exact Or.inl ⟨rfl,rfl,by simp⟩
   |some ad=>exact Or.inr (Or.inl ⟨ad,0,rfl,rfl,by simp⟩)
  ·cases a with
   |none=>exact Or.inl ⟨rfl,rfl,by simp⟩
   |some ad=>exact Or.inr (Or.inl ⟨ad,0,rfl,rfl,by simp⟩)
  ·rw[run_slice_h (P:=P) (w:=W) (t:=t) (a:=a) (len:=0) (cap:=0) ht .i64 ((0:Nat):Int) (by omega) (by omega)];simp[sizeOf,typeInfo,hi,sliced]
  ·rw[run_slice_l (P:=P) (w:=W) (t:=t) (a:=a) (len:=0) (cap:=0) ht .i64 ((0:Nat):Int) (by omega) (by omega)];simp[sizeOf,typeInfo,hi,sliced]
 ·have hl:vs.length=n*sh.length:=by rw[hR.len,bj]
  have tE:k*sh.length≤n*sh.length:=Nat.mul_le_mul_right _ hk;have e1:vs=vs.take (k*sh.length)++vs.drop (k*sh.length):=(List.take_append_drop _ _).symm;have oM:v.rangeAt p o (vs.take (k*sh.length)):=by rw[e1]at hr;exact(dA hr).1
  have mF:v.rangeAt p (o+k*sh.length) (vs.drop (k*sh.length)):=by
   have h2:v.rangeAt p o (vs.take (k*sh.length)++vs.drop (k*sh.length)):=by rw[← e1];exact hr
   have:=(dA h2).2;rwa [List.length_take,Nat.min_eq_left (by omega)]at this
  refine⟨.slice (some ⟨p,o,none⟩) k c,.slice (some (if c=k then ⟨p,o,none⟩ else ⟨p,o+k*sh.length,none⟩)) (n - k) (c - k),vs,G,hR,fun b hb=>by simp[hb],Or.inr (Or.inr ⟨p,o,c,rfl,ho.lt,oM,by rw[List.length_take];omega,fun u hu=>hR.raw.one u (List.mem_of_mem_take hu)⟩), ?_,fun W=> ?_,fun W=> ?_⟩
  ·by_cases JJ:c=k
   ·have Lp:n=k:=by omega
    refine Or.inr (Or.inl ⟨⟨p,o,none⟩,c - k,by rw[if_pos JJ];simp[Lp],by omega, ?_⟩);rw[List.drop_of_length_le (by rw[hl,Lp];exact zE)]
   ·exact Or.inr (Or.inr ⟨p,o+k*sh.length,c - k,by rw[if_neg JJ],ho.lt,mF,by rw[List.length_drop,hl,Nat.sub_mul],fun u hu=>hR.raw.one u (List.mem_of_mem_drop hu)⟩)
  ·rw[run_slice_h (P:=P) (w:=W) (t:=t) (a:=some ⟨p,o,none⟩) (len:=n) (cap:=c) ht .i64 (k:Int) (by omega) (by omega)];simp[sizeOf,typeInfo,hi,sliced,Addr.add_mid]
  ·rw[run_slice_l (P:=P) (w:=W) (t:=t) (a:=some ⟨p,o,none⟩) (len:=n) (cap:=c) ht .i64 (k:Int) (by omega) (by omega)];by_cases JJ:c=k<;>simp[sizeOf,typeInfo,hi,sliced,hs,JJ,Addr.add_mid]
theorem og {α:Type} {v:World} {sh:List Sh} (f:α→List Dt) (hf:∀ x,(f x).length=sh.length) {l:List α} {k:Nat} (hk:k≤l.length) {G Fx:List Nat} {vs cx:List Value} {x:α} (h:Rep v false (bf l.length sh) G (l.flatMap f) vs) (hx:Rep v false sh Fx (f x) cx):
  ∃ G',Rep v false (bf (l.length+1) sh) G' ((l.take k++x::l.drop k).flatMap f) (vs.take (k*sh.length)++cx++vs.drop (k*sh.length))∧∀ b∈G',b∈G∨b∈Fx:=by
 have e1:bf l.length sh=bf k sh++bf (l.length - k) sh:=by rw[← gn];congr 1;omega
 rw[e1]at h;obtain⟨F1,F2,d1,d2,c1,c2,rfl,hd,rfl,h1,h2⟩:=Rep.cut _ h;have ko:d1.length=k*sh.length:=by rw[h1.raw.typ.len,bj]
 have mJ:c1.length=k*sh.length:=by rw[h1.len,bj]
 have ht:((l.take k).flatMap f).length=k*sh.length:=by rw[fW f _ hf,List.length_take,Nat.min_eq_left hk]
 have hs:l.flatMap f=(l.take k).flatMap f++(l.drop k).flatMap f:=by rw[← List.flatMap_append,List.take_append_drop]
 obtain⟨g1,g2⟩:=List.append_inj (hd.symm.trans hs) (by rw[ko,ht]);subst g1;subst g2;refine⟨F1++(Fx++F2), ?_,fun b hb=> ?_⟩
 ·have e2:bf (l.length+1) sh=bf k sh++(sh++bf (l.length - k) sh):=by rw[← bW,← gn];congr 1;omega
  have e3:(c1++c2).take (k*sh.length)=c1:=by rw[← mJ];simp
  have e4:(c1++c2).drop (k*sh.length)=c2:=by rw[← mJ];simp
  rw[e2,e3,e4,List.flatMap_append,List.flatMap_cons,List.append_assoc];exact h1.app (hx.app h2)
 ·simp only[List.mem_append]at hb ⊢;rcases hb with hb|hb|hb
  ·exact Or.inl (Or.inl hb)
  ·exact Or.inr hb
  ·exact Or.inl (Or.inr hb)
theorem uB {W:World} {lo:Nat} {t:TypeId} {sh:List Sh} {v:Value} {n:Nat} {G:List Nat} {es:List Dt} {xs:List Value} (h:W.ownsRow lo t sh.length v n xs) (hr:Rep W false (bf n sh) G es xs):∃ F,Rep W false [.row t sh] F [.row n es] [v]∧∀ b∈F,lo≤b∨b∈G:=by
 rcases h.2 with⟨rfl,rfl⟩|⟨g,cap,cur,rfl,q2,q3,q4,q5,q6,q7⟩
 ·rw[eK]at hr;cases hr
  exact⟨[],.emp _ _ none rfl .nil,by simp⟩
 ·refine⟨g::(G++[]),.row t sh g 0 n cap t (cap*sh.length) xs es G ⟨cur,q3,q6⟩ (by omega) (by simp) ⟨Nat.le_trans q4 q5,q4⟩ ?_ hr .nil, ?_⟩
  ·intro j x hx;rw[← q7]at hx;have hl:j<n*sh.length:=by have:=(List.getElem?_eq_some_iff.1 hx).1;rw[List.length_take]at this;omega
   rw[List.getElem?_take_of_lt hl]at hx;rw[Nat.zero_add];simp only[World.cell?,q3];simpa using hx
  ·intro b hb;rw[List.append_nil]at hb;rcases List.mem_cons.1 hb with rfl|hb
   ·exact Or.inl q2
   ·exact Or.inr hb
set_option maxHeartbeats 40000000
set_option maxRecDepth 8000
theorem AE (b:Pl.Bl) (lv:Value) (w:World) (h:Raw w bF [bT b.lines] [lv]) (hl:b.lines.length≤4194304) (hw:∀ x∈b.lines,x.ws.length≤4194304):
  Calls Tryz.prog 85 #[.agg #[.string b.kind,.string b.name,lv]] w (Ans ak (blD b) w):=by
 obtain⟨va,vc,ev⟩:=h.bm;subst ev;obtain⟨n,hn⟩:∃ n,n=b.lines.length:=⟨_,rfl⟩
 rw[← hn]at h ⊢;obtain⟨wa,aZ⟩:∃ wa,wa=(w.alloc (.cells #[.string b.kind,.string b.name,.slice va n vc] 41)).alloc (.cells #[.string {data:=#[]},.string {data:=#[]},.slice none 0 0] 41):=⟨_,rfl⟩
 have g8:Bel w wa:=by rw[aZ];exact ae (ae zR _) _
 have Ca:wa.heap.size=w.heap.size+2:=by rw[aZ];simp
 have HX:Hid (al wa w.heap.size 41 [.string b.kind,.string b.name,.slice va n vc]):=by
  show al _ _ _ _;rw[aZ];exact(al.new w [.string b.kind,.string b.name,.slice va n vc] 41 _ rfl).later (ae zR _)
 have HR:Hid (al wa (w.heap.size+1) 41 [.string {data:=#[]},.string {data:=#[]},.slice none 0 0]):=by
  show al _ _ _ _;rw[aZ];exact al.new (w.alloc (.cells #[.string b.kind,.string b.name,.slice va n vc] 41)) [.string {data:=#[]},.string {data:=#[]},.slice none 0 0] 41 _ (by simp)
 have HC:=uh (AA b.lines _ wa (h.later g8) hl hw);have jG:=uh g8;have Bi:=uh Ca;clear h hl hw hn g8 Ca;go_enter Tryz.func85,Tryz.ntmps85
 go_upto_region 1 with fail
 rw[← aZ];clear aZ;obtain⟨b0,cd⟩:∃ b0,b0=w.heap.size:=⟨_,rfl⟩
 rw[← cd]at HX HR Bi ⊢;have cL:=uh cd;clear cd;have x2:=HX.out.get 2 _ rfl;have xl:=HX.out.own.lt;go_wp2_with fail
 refine HC.out.mono ?_;rintro e w1 ⟨v1,F,rfl,hr,nd,lo,hb⟩;obtain⟨a1,c1,fy⟩:=hr.raw.bm;subst fy;clear x2 xl HC;have H1:=uh (HX.out.later hb);have H2:=uh (HR.out.later hb);have P4:=uh (And.intro hr (And.intro nd lo));have gE:=uh hb;clear hr nd lo hb HX HR;have x2:=H1.out.get 2 _ rfl;have xl:=H1.out.own.lt;have xf:=H1.out.own.frozen 2;go_upto_region 2 with fail
 clear x2 xl xf;obtain⟨w2,gI⟩:∃ w2,w2=w1.setCell ⟨b0,2,none⟩ (.slice a1 b.lines.length c1):=⟨_,rfl⟩
 have H3:Hid (al w2 b0 41 [.string b.kind,.string b.name,.slice a1 b.lines.length c1]):=by show al _ _ _ _;rw[gI];exact H1.out.set 2 (.slice a1 b.lines.length c1) (by simp)
 have H4:Hid (al w2 (b0+1) 41 [.string {data:=#[]},.string {data:=#[]},.slice none 0 0]):=by show al _ _ _ _;rw[gI];exact H2.out.other (by omega) _ _
 have wi:Hid (Marks (fun b=>b=b0) w1 w2):=by show Marks _ _ _;rw[gI];exact Marks.sc (S:=fun b=>b=b0) w1 rfl 2 (.slice a1 b.lines.length c1)
 rw[← gI];clear gI H1 H2;have mN:=H3.out.at_;have gD:=H3.out.own.lt;have oG:=H4.out.own.lt;have cp:w2.there (b0+1) 0 (#[.string b.kind,.string b.name,.slice a1 b.lines.length c1]:Array Value).size:=aR H4.out.own _ _ (by simp);obtain⟨we,bM⟩:∃ we,we=w2.setCells (b0+1) 0 [.string b.kind,.string b.name,.slice a1 b.lines.length c1]:=⟨_,rfl⟩
 have fT:we.rangeAt (b0+1) 0 [.string b.kind,.string b.name,.slice a1 b.lines.length c1]:=by rw[bM];exact World.rangeAt_setCells_same _ _ _ _ cp
 have nO:Hid (Marks (fun b=>b=b0+1) w2 we):=by show Marks _ _ _;rw[bM];exact aM (S:=fun b=>b=b0+1) rfl _ _ _
 have Pk:∀ x∈ [Value.string b.kind,.string b.name,.slice a1 b.lines.length c1],x.oneCell'=true:=fun x hx=>(mj b.kind b.name P4.out.1.raw).one x hx;have hon:=all_oneCell_toArray Pk;clear Pk;go_wp2_with (first|(refine wpList_load_mid rfl 41 _ rfl b0 0 rfl [.string b.kind,.string b.name,.slice a1 b.lines.length c1] _ mN Tryz.underlying41 rfl (by kernel_rfl) ?_)|(refine wpList_store_mid rfl 41 _ _ rfl (b0+1) 0 #[.string b.kind,.string b.name,.slice a1 b.lines.length c1] rfl rfl cp (by kernel_rfl) hon ?_))
 first|rw[← bM]|(simp only[List.toList_toArray];rw[← bM])
 try simp only[Act.put]
 refine bodyPost_ret (v:=.agg #[.string b.kind,.string b.name,.slice a1 b.lines.length c1]) (by simp[results,Tryz.results85,asAddr,run_loadVar_mid (P:=Tryz.prog) _ _ _ 41 [.string b.kind,.string b.name,.slice a1 b.lines.length c1] _ fT Tryz.underlying41 rfl (by kernel_rfl)]) rfl ?_;have tS:∀ b∈F,b0+2≤b:=fun b hb=>by have:=P4.out.2.2 b hb;have:=Bi.out;omega
 refine⟨[.string b.kind,.string b.name,.slice a1 b.lines.length c1],F++[],rfl,bG b.kind b.name ((P4.out.1.bo wi.out fun b hb e=>by have:=tS b hb;omega).bo nO.out fun b hb e=>by have:=tS b hb;omega),by rw[List.append_nil];exact P4.out.2.1,fun b hb=> ?_, ?_⟩
 ·rw[List.append_nil]at hb;have:=tS b hb;have:=cL.out;omega
 ·have h1:=ah jG.out gE.out;have h2:=wi.out.below (fun b e=>by have:=cL.out;omega) h1;exact nO.out.below (fun b e=>by have:=cL.out;omega) h2
theorem Tryz.cn:Tryz.prog.underlying 23=some (.slice 41):=by kernel_rfl
theorem Tryz.i9:(Tryz.prog.info? 41).map (fun i=>(i.zero,i.size,i.bytes))=some (some (.agg #[.string {data:=#[]},.string {data:=#[]},.slice none 0 0]),3,56):=by kernel_rfl
structure CyK (w:World) (b0:Nat) (lv uv:Value) (W:World):Prop where
 bel:Bel w W
 arg:aS W b0 [lv]
 res:al W (b0+1) 25 [.slice none 0 0]
 out:al W (b0+2) 25 [uv]
structure Cy (w:World) (b0:Nat) (lv uv:Value) (k:Nat) (G:List Nat) (es:List Dt) (xs:List Value) (W:World):Prop extends CyK w b0 lv uv W where
 row:Gr W (b0+3) 41 ak uv k G es xs
theorem aS.sc {W:World} {p q:Nat} {cs:List Value} (h:aS W p cs) (hn:p≠q) (j:Nat) (x:Value):aS (W.setCell ⟨q,j,none⟩ x) p cs:=
 h.mks (Marks.sc (S:=fun b=>b=q) W rfl j x) hn
theorem Gr.sc {W:World} {lo:Nat} {t:TypeId} {sh:List Sh} {v:Value} {n:Nat} {G:List Nat} {es:List Dt} {xs:List Value} (h:Gr W lo t sh v n G es xs) {q:Nat} (hq:q<lo) (j:Nat) (x:Value):Gr (W.setCell ⟨q,j,none⟩ x) lo t sh v n G es xs:=
 ⟨dE h.row (Marks.sc (S:=fun b=>b=q) W rfl j x) fun b hb e=>by omega,h.rep.bo (Marks.sc (S:=fun b=>b=q) W rfl j x) fun b hb e=>by have:=(h.fr b hb).1;omega,h.nd,h.fr⟩
theorem CyK.put {w W:World} {b0:Nat} {lv uv u:Value} {k:Nat} {G:List Nat} {es:List Dt} {xs:List Value} (h:CyK w b0 lv uv W) (hb:b0=w.heap.size) (hg:Gr W (b0+3) 41 ak u k G es xs):Cy w b0 lv u k G es xs (W.setCell ⟨b0+2,0,none⟩ u):=
 ⟨⟨h.bel.setCell (p:=⟨b0+2,0,none⟩) (by show w.heap.size≤b0+2;omega) _,h.arg.sc (by omega) _ _,h.res.other (by omega) _ _,h.out.set 0 u (by simp)⟩,hg.sc (by omega) _ _⟩
def VCy (uv lv:Value) (b0 bz p o k:Nat) (x:Pl.Bl) (ax:Option Addr) (cx:Nat) (jj:Nat) (u:Value) (W:World):Prop:=match jj with
 |0=>u=.pointer (some ⟨b0+2,0,none⟩)
 |1=>u=uv
 |2=>u=.pointer (some ⟨b0,0,none⟩)
 |3=>u=lv
 |4=>u=.int .i64 (k:Int)
 |5=>u=.pointer (some ⟨p,o+k*3,none⟩)
 |6=>u=.agg #[.string x.kind,.string x.name,.slice ax x.lines.length cx]
 |7=>∃ a c F,u=.agg #[.string x.kind,.string x.name,.slice a x.lines.length c]∧Rep W false ak F (blD x) [.string x.kind,.string x.name,.slice a x.lines.length c]∧F.Nodup∧∀ b∈F,bz≤b
 |8=>∃ q a c F,u=.slice (some ⟨q,0,none⟩) 1 1∧W.heap[q]? =some (.cells #[.string x.kind,.string x.name,.slice a x.lines.length c] 41 (0,0))∧Rep W false ak F (blD x) [.string x.kind,.string x.name,.slice a x.lines.length c]∧F.Nodup∧∀ b∈F,bz≤b
 |_=>True
theorem C9 (uv lv:Value) (b0 bz p o k:Nat) (x:Pl.Bl) (ax:Option Addr) (cx:Nat):∀ j u W W',Bel W W'→VCy uv lv b0 bz p o k x ax cx j u W→VCy uv lv b0 bz p o k x ax cx j u W':=by
 intro j u W W' hb h;match j with
 |0|1|2|3|4|5=>exact h
 |6=>
  exact h
 |7=>
  obtain⟨a,c,F,e,hr,nd,lo⟩:=h;exact⟨a,c,F,e,hr.later hb,nd,lo⟩
 |8=>
  obtain⟨q,a,c,F,e,hc,hr,nd,lo⟩:=h;exact⟨q,a,c,F,e,(hb.block q (Array.getElem?_eq_some_iff.1 hc).1).trans hc,hr.later hb,nd,lo⟩
 |n+9=>exact trivial
theorem oU (s:List Pl.Bl) (v:Value) (w:World) (h:Raw w bu [bD s] [v]) (hl:s.length≤4194304) (fJ:∀ b∈s,b.lines.length≤4194304∧∀ x∈b.lines,x.ws.length≤4194304):
  Calls Tryz.prog 64 #[.agg #[v]] w (Ans eU [bD s] w):=by
 obtain⟨i0,gF,ga,dJ,gH⟩:=ji Tryz.i9;have HL:=uh h;have jI:=uh fJ;obtain⟨va,vc,ev⟩:=h.bm;subst ev;clear h fJ;obtain⟨n,hn⟩:∃ n,n=s.length:=⟨_,rfl⟩
 have HN:=uh hn;have B5:n≤4194304:=by omega
 have qs:s.length=n:=hn.symm;clear hn hl;rw[qs];clear qs;obtain⟨wa,aZ⟩:∃ wa,wa=((w.alloc (.cells #[.slice va n vc] 25)).alloc (.cells #[.slice none 0 0] 25)).alloc (.cells #[.slice none 0 0] 25):=⟨_,rfl⟩
 obtain⟨b0,cd⟩:∃ b0,b0=w.heap.size:=⟨_,rfl⟩
 have kW:=uh cd;have H0:Hid (Cy w b0 (.slice va n vc) (.slice none 0 0) 0 [] [] [] wa):=by
  show Cy _ _ _ _ _ _ _ _ _;refine⟨⟨?_, ?_, ?_, ?_⟩,Gr.nil _ _ _ _⟩
  ·rw[aZ];exact ae (ae (ae zR _) _) _
  ·rw[aZ,cd];exact((aS.new w #[.slice va n vc] _ _ rfl).lf _).lf _
  ·rw[aZ,cd];exact(al.new (w.alloc (.cells #[.slice va n vc] 25)) [.slice none 0 0] 25 _ (by simp)).later (ae zR _)
  ·rw[aZ,cd];exact al.new ((w.alloc (.cells #[.slice va n vc] 25)).alloc (.cells #[.slice none 0 0] 25)) [.slice none 0 0] 25 _ (by simp)
 go_enter Tryz.func64,Tryz.ntmps64
 go_upto_region 2 with fail
 rw[← aZ,← cd];clear aZ cd;go_wp2;go_loopw [4] (fun vi wr=>∃ (k:Nat) (uv:Value) (G:List Nat) (xs:List Value),k≤n∧vi=.int .i64 k∧Cy w b0 (.slice va n vc) uv k G ((s.take k).flatMap blD) xs wr) (fun vi _=>n - (intOf vi).toNat)
 case atStart=>exact⟨0,_,[],[],zN,rfl,H0.out⟩
 case round=>
  obtain⟨k,uv,G,xs,hk,rfl,hO⟩:=hrel;have HO:=uh hO;obtain⟨ua,uc,Re⟩:=hO.row.shape;subst Re;clear hO H0;have x0:=HO.out.arg.get 0 _ rfl;have xl:=HO.out.arg.lt;by_cases bd:k<n
  rotate_left
  ·have zu:s.take k=s:=List.take_of_length_le (by have:=HN.out;omega);rw[zu]at HO;obtain rfl:k=s.length:=by have:=HN.out;omega
   clear zu;go_upto_region 6 with fail
   clear x0 xl;have mN:=HO.out.out.at_;have gD:=HO.out.out.own.lt;have oG:=HO.out.res.own.lt;have cp:wr.there (b0+1) 0 (#[.slice ua s.length uc]:Array Value).size:=aR HO.out.res.own _ _ (by simp);obtain⟨we,bM⟩:∃ we,we=wr.setCells (b0+1) 0 [.slice ua s.length uc]:=⟨_,rfl⟩
   have fT:we.rangeAt (b0+1) 0 [.slice ua s.length uc]:=by rw[bM];exact World.rangeAt_setCells_same _ _ _ _ cp
   have nO:Hid (Marks (fun b=>b=b0+1) wr we):=by show Marks _ _ _;rw[bM];exact aM (S:=fun b=>b=b0+1) rfl _ _ _
   go_wp2_with (first|(refine wpList_load_mid rfl 25 _ rfl (b0+2) 0 rfl [.slice ua s.length uc] _ mN Tryz.underlying25 rfl (by kernel_rfl) ?_)|(refine wpList_store_mid rfl 25 _ _ rfl (b0+1) 0 #[.slice ua s.length uc] rfl rfl cp (by kernel_rfl) (by simp[Value.oneCell']) ?_))
   first|rw[← bM]|(simp only[List.toList_toArray];rw[← bM])
   try simp only[Act.put]
   refine bodyPost_ret (v:=.agg #[.slice ua s.length uc]) (by simp[results,Tryz.results64,asAddr,run_loadVar_mid (P:=Tryz.prog) _ _ _ 25 [.slice ua s.length uc] _ fT Tryz.underlying25 rfl (by kernel_rfl)]) rfl ?_;obtain⟨F,r,nd,fr⟩:=HO.out.row.done;refine⟨[.slice ua s.length uc],F++[],rfl,nj (r.bo nO.out fun b hb e=>by have:=fr b hb;omega),by rw[List.append_nil];exact nd,fun b hb=> ?_,nO.out.below (fun b e=>by have:=kW.out;omega) HO.out.bel⟩;rw[List.append_nil]at hb;have:=fr b hb;have:=kW.out;omega
  have iF:k<s.length:=by have:=HN.out;omega
  rcases db (HL.out.later HO.out.bel) with⟨e0,_⟩|⟨p,o,c,hv,hp,fK,aO⟩
  ·omega
  rw[← HN.out]at hv fK;injection hv with g1 _ g3
  subst g1;subst g3;obtain⟨ax,cx,jf,fe⟩:=aO k iF;have wA:=uh (Pl.cX Pl.aN s k iF);have QB:(s.getD k Pl.aN).lines.length≤4194304∧∀ x∈(s.getD k Pl.aN).lines,x.ws.length≤4194304:=by
   have e:s.getD k Pl.aN=s[k]:=by simp[iF]
   rw[e];exact jI.out _ (List.getElem_mem iF)
  obtain⟨x,hx⟩:∃ x,x=s.getD k Pl.aN:=⟨_,rfl⟩
  rw[← hx]at jf fe wA QB;have HCB:=uh (fun (X:World) (hX:Bel wr X)=>AE x (.slice ax x.lines.length cx) X (fe.later hX) QB.1 QB.2);have fg:=uh jf;have fB:=uh hp;have ec:(0:Int)≤(k:Int):=by omega
  have dP:(k:Int)<(n:Int):=by omega
  clear hx jf fe QB hp aO fK;go_upto_region 5 with fail
  clear x0 xl;refine RY.np wr zR (VCy (.slice ua k uc) (.slice (some ⟨p,o,none⟩) n vc) b0 wr.heap.size p o k x ax cx) (C9 _ _ _ _ _ _ _ _ _ _) (fun u W'=>∃ g cap G' xs',u=.slice (some ⟨g,0,none⟩) (k+1) cap∧CyK w b0 (.slice (some ⟨p,o,none⟩) n vc) (.slice ua k uc) W'∧Gr W' (b0+3) 41 ak u (k+1) G' ((s.take (k+1)).flatMap blD) xs') (fun u W'=>∃ g cap G' xs',u=.slice (some ⟨g,0,none⟩) (k+1) cap∧Cy w b0 (.slice (some ⟨p,o,none⟩) n vc) u (k+1) G' ((s.take (k+1)).flatMap blD) xs' W') (.pointer (some ⟨b0+2,0,none⟩)) 9 12 22 23 (by kernel_rfl) (by kernel_rfl) (by kernel_rfl) (by kernel_rfl) (by kernel_rfl) rfl (by kernel_rfl) _ _ _ rfl rfl rfl rfl rfl rfl (by kernel_rfl) (by kernel_rfl) ?_ ?_ ?_ ?_ ?_
  ·intro i o' ho gG a X hX hk hd;have z2:=(HO.out.out.later hX).get 0 _ rfl;have z0:=(HO.out.arg.later hX).get 0 _ rfl;have zl2:=(HO.out.out.later hX).own.lt;have zl0:=(HO.out.arg.later hX).lt;match i,ho with
   |0,rfl=>
    exact RY.p (.pointer (some ⟨b0+2,0,none⟩)) (by simp[execOp,go_sem,RY.K hk 3 (.pointer (some ⟨b0+2,0,none⟩))])
   |1,rfl=>
    exact RY.p (.slice ua k uc) (by simp[execOp,go_sem,RY.E1 hd 0 13,z2])
   |2,rfl=>
    exact RY.p (.pointer (some ⟨b0,0,none⟩)) (by simp[execOp,go_sem,RY.K hk 1 (.pointer (some ⟨b0,0,none⟩))])
   |3,rfl=>
    exact RY.p (.slice (some ⟨p,o,none⟩) n vc) (by simp[execOp,go_sem,RY.E1 hd 2 15,z0])
   |4,rfl=>
    exact RY.p (.int .i64 (k:Int)) (by simp[execOp,go_sem,RY.K hk 4 (.int .i64 (k:Int))])
   |5,rfl=>
    exact RY.p (.pointer (some ⟨p,o+k*3,none⟩)) (by simp[execOp,go_sem,RY.E1 hd 3 16,RY.E1 hd 4 17,ec,dP])
   |6,rfl=>
    have e1:=hd 5 _ 18 rfl rfl ⟨⟨5,.data⟩,by simp,rfl,rfl⟩ (by decide);exact Or.inl ⟨_,X,ar 41 _ rfl p (o+k*3) e1 [.string x.kind,.string x.name,.slice ax x.lines.length cx] _ (aB fg.out fB.out hX) Tryz.underlying41 rfl (by kernel_rfl),zR,rfl⟩
   |7,rfl=>
    have e19:=(RY.af a 19).trans (hd 6 _ 19 rfl rfl ⟨⟨6,.data⟩,by simp,rfl,rfl⟩ (by decide));refine Or.inr ⟨85,#[.agg #[.string x.kind,.string x.name,.slice ax x.lines.length cx]],by simp[go_sem,e19],(HCB.out X hX).mono ?_⟩;rintro e W' ⟨c,F,rfl,hr,nd,lo,hb⟩;obtain⟨v1,hc,r1⟩:=kv hr.raw;subst hc;obtain⟨a1,c1,fy⟩:=r1.bm;subst fy;exact⟨_,rfl,hb,a1,c1,F,rfl,hr,nd,fun b hb=>Nat.le_trans hX.size (lo b hb)⟩
   |8,rfl=>
    obtain⟨a1,c1,F,e1,hr,nd,lo⟩:=hd 7 _ 20 rfl rfl ⟨⟨7,.data⟩,by simp,rfl,rfl⟩ (by decide);have e20:=(RY.af a 20).trans e1;exact Or.inl ⟨.slice (some ⟨X.heap.size,0,none⟩) 1 1,X.alloc (.cells #[.string x.kind,.string x.name,.slice a1 x.lines.length c1] 41),by simp[execOp,go_sem,e20],ae zR _,X.heap.size,a1,c1,F,rfl,heap_alloc_new X _,hr.later (ae zR _),nd,lo⟩
   |n+9,ho=>omega
  ·intro a X hX hk hd;have z2:=(HO.out.out.later hX).get 0 _ rfl;have z0:=(HO.out.arg.later hX).get 0 _ rfl;have zl2:=(HO.out.out.later hX).own.lt;have zl0:=(HO.out.arg.later hX).lt;have e0:=hd 1 _ 14 rfl rfl ⟨⟨1,.data⟩,by simp,rfl,rfl⟩ (by decide);obtain⟨q,a1,c1,FW,e1,ot,fc,nd,fr⟩:=hd 8 _ 21 rfl rfl ⟨⟨8,.data⟩,by simp,rfl,rfl⟩ (by decide);have MG:=HO.out.row.later hX;obtain⟨g,cap,X',dM,ff,nr,wW,_⟩:=run_append_lies (P:=Tryz.prog) (w:=X) 23 23 (b0+3) 41 i0 _ 3 56 Tryz.cn gF ga dJ gH rfl (by decide) (.slice ua k uc) k xs MG.row ⟨q,0,none⟩ 1 1 [.string x.kind,.string x.name,.slice a1 x.lines.length c1] rfl (fun j y hy=>by rw[Addr.add_mid,Nat.zero_add];simp only[World.cell?,ot];simpa using hy) (fun y hy=>fc.raw.one y hy) (by decide) (by unfold maxLen;omega) (by omega) (by have:=HO.out.out.own.lt;have:=hX.size;omega) X.heap.size rfl;have hn:∀ q,q<b0+3→(Value.slice ua k uc).ownBlock≠some q:=fun q hq e=>by have:=(bI MG.row e).1;omega
   refine⟨_,X',aQ (.tmp 14) (.tmp 21) 23 rfl e0 e1 dM,g,cap,G++FW,xs++[.string x.kind,.string x.name,.slice a1 x.lines.length c1],rfl,⟨?_, ?_, ?_, ?_⟩, ?_⟩
   ·exact mr (ah HO.out.bel hX) nr (fun b hb=>by have:=(bI MG.row hb).1;have:=kW.out;omega)
   ·exact(HO.out.arg.later hX).grown nr (hn _ (by omega))
   ·exact(HO.out.res.later hX).grow nr (hn _ (by omega))
   ·exact(HO.out.out.later hX).grow nr (hn _ (by omega))
   ·have:=HO.out.row.push (F:=FW) hX fc nd fr (by have:=HO.out.out.own.lt;omega) ff nr zE wW;rw[wA.out,List.flatMap_append,List.flatMap_singleton];exact this
  ·intro a X hk;have e3:=RY.K hk 3 (.pointer (some ⟨b0+2,0,none⟩));simp[execOp,go_sem,e3]
  ·intro a X hK hp;obtain⟨g,cap,G',xs',e1,hK,hg⟩:=hK;have t22:=(RY.af a 22).trans e1;have t23:=(RY.af a 23).trans hp;have z2:=hK.out.get 0 _ rfl;have zf:=hK.out.own.frozen 0;refine⟨X.setCell ⟨b0+2,0,none⟩ (.slice (some ⟨g,0,none⟩) (k+1) cap),by simp[execOp,go_sem,t22,t23,z2,zf],g,cap,G',xs',e1, ?_⟩;rw[e1]at hg ⊢;exact hK.put kW.out hg
  ·rintro vals X hK e2;simp only[RY.aC,Act.put,List.setIfInBounds_toArray,List.set_cons_zero,List.set_cons_succ];rw[e2];generalize vals 13=s13;generalize vals 14=s14;generalize vals 15=s15;generalize vals 16=s16;generalize vals 17=s17;generalize vals 18=s18;generalize vals 19=s19;generalize vals 20=s20;generalize vals 21=s21;obtain⟨g,cap,G',xs',e1,hO⟩:=hK;rw[e1]at hO ⊢;have HN:=uh hO;clear hO e1 e2 HO;go_wp2;go_roundw
   case rel=>exact⟨k+1,_,G',xs',by omega,by go_num,HN.out⟩
   case measure=>simp[intOf];omega
theorem Tryz.kM:Tryz.prog.elem 39=46:=by kernel_rfl
theorem Tryz.eh:Tryz.prog.underlying 39=some (.slice (Tryz.prog.elem 39)):=by rw[Tryz.kM];exact Tryz.cI
structure Pt (w:World) (b0:Nat) (kd nm:ByteArray) (lv:Value) (xs:List Value) (W:World):Prop where
 bel:Bel w W
 box:al W b0 41 [.string kd,.string nm,lv]
 arg:aS W (b0+1) xs
 res:al W (b0+2) 41 [.string {data:=#[]},.string {data:=#[]},.slice none 0 0]
theorem Pt.later {w W W':World} {b0:Nat} {kd nm:ByteArray} {lv:Value} {xs:List Value} (h:Pt w b0 kd nm lv xs W) (hb:Bel W W'):Pt w b0 kd nm lv xs W':=⟨ah h.bel hb,h.box.later hb,h.arg.later hb,h.res.later hb⟩
structure PtK (w:World) (b0:Nat) (kd nm:ByteArray) (n:Nat) (u:Value) (G:List Nat) (es:List Dt) (xs:List Value) (W:World):Prop where
 form:∃ g cap,u=.slice (some ⟨g,0,none⟩) (n+1) cap
 bel:Bel w W
 box:al W b0 41 [.string kd,.string nm,u]
 res:al W (b0+2) 41 [.string {data:=#[]},.string {data:=#[]},.slice none 0 0]
 row:W.ownsRow (b0+3) 46 2 u (n+1) xs
 rep:Rep W false (bf (n+1) aA) G es xs
theorem pd {W:World} {lo lo' e size n:Nat} {v:Value} {xs:List Value} (h:W.ownsRow lo e size v n xs) (hl:lo'≤lo):W.ownsRow lo' e size v n xs:=by
 refine⟨h.1,h.2.imp id ?_⟩;rintro⟨g,cap,cur,h1,h2,h3⟩;exact⟨g,cap,cur,h1,Nat.le_trans hl h2,h3⟩
theorem PtK.mk' {w Y:World} {b0 lo n g cap:Nat} {kd nm:ByteArray} {lv:Value} {G:List Nat} {es:List Dt} {xs ys:List Value} (hb:b0=w.heap.size) (h:Pt w b0 kd nm lv ys Y) (bR:b0+3≤lo) (ho:Y.ownsRow lo 46 2 (.slice (some ⟨g,0,none⟩) (n+1) cap) (n+1) xs) (hr:Rep Y false (bf (n+1) aA) G es xs) (hG:∀ b∈G,b<b0):
  PtK w b0 kd nm n (.slice (some ⟨g,0,none⟩) (n+1) cap) G es xs (Y.setCell ⟨b0,2,none⟩ (.slice (some ⟨g,0,none⟩) (n+1) cap)):=by
 have hm:Marks (fun b=>b=b0) Y (Y.setCell ⟨b0,2,none⟩ (.slice (some ⟨g,0,none⟩) (n+1) cap)):=Marks.sc (S:=fun b=>b=b0) Y rfl 2 _;exact⟨⟨g,cap,rfl⟩,hm.below (fun b e=>by omega) h.bel,h.box.set 2 _ (by simp),h.res.other (by omega) _ _,dE (pd ho bR) hm fun b hb e=>by omega,hr.bo hm fun b hb e=>by have:=hG b hb;omega⟩
def Cc (sh:List Sh) (A:List Dt) (F:Nat→Prop) (W:World) (e:Ending) (w':World):Prop:=∃ c F',e=.returned (.agg c.toArray)∧Rep w' false sh F' A c∧(∀ b∈F',F b∨W.heap.size≤b)∧Bel W w'
theorem PtK.ans {w W we:World} {b0 n g cap:Nat} {kd nm:ByteArray} {G:List Nat} {l:List Pl.Ln} {xs:List Value} {S:Nat→Prop} (h:PtK w b0 kd nm n (.slice (some ⟨g,0,none⟩) (n+1) cap) G (l.flatMap lnD) xs W) (hb:b0=w.heap.size) (hm:Marks (fun b=>b=b0+2) W we) (hG:∀ b∈G,b<b0) (hl:l.length=n+1) (hS:∀ b∈G,S b):
  Cc ak (blD ⟨kd,nm,l⟩) S w (.returned (.agg #[.string kd,.string nm,.slice (some ⟨g,0,none⟩) (n+1) cap])) we:=by
 obtain⟨F,r,hF⟩:=uB (sh:=aA) (dE h.row hm fun b hb e=>by omega) (h.rep.bo hm fun b hb e=>by have:=hG b hb;omega);refine⟨[.string kd,.string nm,.slice (some ⟨g,0,none⟩) (n+1) cap],F++[],rfl, ?_,fun b hb=> ?_,hm.below (fun b e=>by omega) h.bel⟩
 ·unfold blD bT;rw[hl];exact bG kd nm r
 ·rw[List.append_nil]at hb;rcases hF b hb with q|q
  ·exact Or.inr (by omega)
  ·exact Or.inl (hS b q)
def VIn (lv s1 s2:Value) (k b0:Nat) (X:Array Value):Nat→Value→Prop
 |1,u|9,u|14,u=>u=.pointer (some ⟨b0,2,none⟩)
 |2,u|10,u=>u=lv
 |3,u|11,u=>u=.int .i64 (k:Int)
 |4,u=>u=s1
 |6,u=>u=.agg X
 |12,u=>u=s2
 |_,_=>True
def VPa (va:Option Addr) (vc:Nat) (n:Nat) (k:Nat) (b0:Nat) (jj:Nat) (u:Value) (_:World):Prop:=match jj with
 |0=>u=.int .i64 (k:Int)
 |1=>u=.pointer (some ⟨b0,2,none⟩)
 |2=>u=.slice va n vc
 |3=>u=.int .i64 (n:Int)
 |4|5|15=>u=.bool false
 |6|7|8|9|10|11|12|13|14=>u=undef
 |_=>True
theorem Df (va:Option Addr) (vc:Nat) (n:Nat) (k:Nat) (b0:Nat):∀ jj u W W',Bel W W'→VPa va vc n k b0 jj u W→VPa va vc n k b0 jj u W':=fun _ _ _ _ _ h=>h
def VPb (b:Pl.Bl) (x:Pl.Ln) (y:Pl.Ln) (va:Option Addr) (xa:Option Addr) (ya:Option Addr) (vc:Nat) (xc:Nat) (yc:Nat) (p:Nat) (o:Nat) (n:Nat) (k:Nat) (b0:Nat) (jj:Nat) (u:Value) (_:World):Prop:=match jj with
 |0|10=>u=.int .i64 (k:Int)
 |1|8=>u=.pointer (some ⟨b0,2,none⟩)
 |2|9=>u=.slice va n vc
 |3=>u=.int .i64 (n:Int)
 |4|5|14|15=>u=.bool true
 |6=>u=.pointer (some ⟨b0,0,none⟩)
 |7=>u=.string b.kind
 |11=>u=.pointer (some ⟨p,o+k*2,none⟩)
 |12=>u=.agg #[.string y.key,.slice ya y.ws.length yc]
 |13=>u=.agg #[.string x.key,.slice xa x.ws.length xc]
 |_=>True
theorem DP (b:Pl.Bl) (x:Pl.Ln) (y:Pl.Ln) (va:Option Addr) (xa:Option Addr) (ya:Option Addr) (vc:Nat) (xc:Nat) (yc:Nat) (p:Nat) (o:Nat) (n:Nat) (k:Nat) (b0:Nat):∀ jj u W W',Bel W W'→VPb b x y va xa ya vc xc yc p o n k b0 jj u W→VPb b x y va xa ya vc xc yc p o n k b0 jj u W':=fun _ _ _ _ _ h=>h
def VPc (b:Pl.Bl) (x:Pl.Ln) (y:Pl.Ln) (va:Option Addr) (xa:Option Addr) (ya:Option Addr) (vc:Nat) (xc:Nat) (yc:Nat) (p:Nat) (o:Nat) (n:Nat) (k:Nat) (b0:Nat) (jj:Nat) (u:Value) (_:World):Prop:=match jj with
 |0|10=>u=.int .i64 (k:Int)
 |1|8=>u=.pointer (some ⟨b0,2,none⟩)
 |2|9=>u=.slice va n vc
 |3=>u=.int .i64 (n:Int)
 |4|5=>u=.bool true
 |6=>u=.pointer (some ⟨b0,0,none⟩)
 |7=>u=.string b.kind
 |11=>u=.pointer (some ⟨p,o+k*2,none⟩)
 |12=>u=.agg #[.string y.key,.slice ya y.ws.length yc]
 |13=>u=.agg #[.string x.key,.slice xa x.ws.length xc]
 |14|15=>u=.bool false
 |_=>True
theorem Dn (b:Pl.Bl) (x:Pl.Ln) (y:Pl.Ln) (va:Option Addr) (xa:Option Addr) (ya:Option Addr) (vc:Nat) (xc:Nat) (yc:Nat) (p:Nat) (o:Nat) (n:Nat) (k:Nat) (b0:Nat):∀ jj u W W',Bel W W'→VPc b x y va xa ya vc xc yc p o n k b0 jj u W→VPc b x y va xa ya vc xc yc p o n k b0 jj u W':=fun _ _ _ _ _ h=>h
theorem vG (b:Pl.Bl) (x:Pl.Ln) (lv wv:Value) (F Fx:List Nat) (w:World) (h:Rep w false bF F [bT b.lines] [lv]) (hx:Rep w false bB Fx [.row x.ws.length (txD x.ws)] [wv]) (hl:b.lines.length≤4194304):
  Calls Tryz.prog 14 #[.agg #[.string b.kind,.string b.name,lv],.agg #[.string x.key,wv]] w (Cc ak (blD ⟨b.kind,b.name,Pl.ck b.kind b.lines x⟩) (fun q=>q∈F∨q∈Fx) w):=by
 obtain⟨i0,gF,ga,dJ,gH⟩:=ji Tryz.jQ;obtain⟨va,vc,ev⟩:=h.raw.bm;obtain⟨xa,xc,ex⟩:=hx.raw.bm;subst ev;subst ex;obtain⟨n,hn⟩:∃ n,n=b.lines.length:=⟨_,rfl⟩
 have HN:=uh hn;have B5:n≤4194304:=by omega
 obtain⟨b0,cd⟩:∃ b0,b0=w.heap.size:=⟨_,rfl⟩
 have kW:=uh cd;have Le:Hid (∀ q∈F,q<b0):=fun q hq=>by rw[cd];exact h.lt q hq
 have IH:Hid (∀ q∈Fx++[],q<b0):=fun q hq=>by rw[cd];rw[List.append_nil]at hq;exact hx.lt q hq
 have M5:=uh hx;have OG:Hid (Rep w false aA (Fx++[]) (lnD x) [.string x.key,.slice xa x.ws.length xc]):=eF x.key hx;have HL:=uh h;rw[← hn];rw[← hn]at HL;clear h hx hl hn;obtain⟨wa,aZ⟩:∃ wa,wa=((w.alloc (.cells #[.string b.kind,.string b.name,.slice va n vc] 41)).alloc (.cells #[.string x.key,.slice xa x.ws.length xc] 46)).alloc (.cells #[.string {data:=#[]},.string {data:=#[]},.slice none 0 0] 41):=⟨_,rfl⟩
 have H0:Hid (Pt w b0 b.kind b.name (.slice va n vc) [.string x.key,.slice xa x.ws.length xc] wa):=by
  show Pt _ _ _ _ _ _ _;refine⟨?_, ?_, ?_, ?_⟩
  ·rw[aZ];exact ae (ae (ae zR _) _) _
  ·rw[aZ,cd];exact(al.new w [.string b.kind,.string b.name,.slice va n vc] 41 _ rfl).later (ae (ae zR _) _)
  ·rw[aZ,cd];exact(aS.new (w.alloc (.cells #[.string b.kind,.string b.name,.slice va n vc] 41)) #[.string x.key,.slice xa x.ws.length xc] 46 _ (by simp)).lf _
  ·rw[aZ,cd];exact al.new ((w.alloc (.cells #[.string b.kind,.string b.name,.slice va n vc] 41)).alloc (.cells #[.string x.key,.slice xa x.ws.length xc] 46)) [.string {data:=#[]},.string {data:=#[]},.slice none 0 0] 41 _ (by simp)
 go_enter Tryz.func14,Tryz.ntmps14
 go_upto_region 1 with fail
 rw[← aZ,← cd];clear aZ cd;go_wp2;go_loopw [5] (fun vi wr=>∃ k:Nat,k≤n∧vi=.int .i64 k∧Pt w b0 b.kind b.name (.slice va n vc) [.string x.key,.slice xa x.ws.length xc] wr∧∀ j,j<k→Pl.aL b.kind (b.lines.getD j Pl.aK) x=true) (fun vi _=>n - (intOf vi).toNat)
 case atStart=>exact⟨0,zN,rfl,H0.out,fun j hj=>absurd hj (by omega)⟩
 case round=>
  obtain⟨k,hk,rfl,hO,hI⟩:=hrel;have HO:=uh hO;have HI:=uh hI;have OP:=uh (fun hh=>Pl.vz Pl.aK (fun y=>Pl.aL b.kind y x) b.lines x k (by have:=HN.out;omega) hI hh);clear hO hI H0;by_cases bd:k<n
  rotate_left
  ·have Hs:¬ ((k:Int)<(n:Int)):=by omega
   have qd:Hid (Pl.ck b.kind b.lines x=b.lines.take k++x::b.lines.drop k):=OP.out (Or.inl (by have:=HN.out;omega));have je:Hid ((Pl.ck b.kind b.lines x).length=n+1):=by show _=_;rw[qd.out,List.length_append,List.length_cons,List.length_take,List.length_drop];have:=HN.out;omega
   go_upto_region 2 with fail
   refine RY.aH wr zR (VPa va vc n k b0) (Df _ _ _ _ _) (by kernel_rfl) (by kernel_rfl) (by kernel_rfl) (by kernel_rfl) ?_ ?_
   ·intro i o' ho a X hX hk hd;have z0:=(HO.out.box.later hX).get 0 _ rfl;have z2:=(HO.out.box.later hX).get 2 _ rfl;have rx:=(HO.out.arg.later hX).at_;match i,ho with
    |0,rfl=>
     exact RY.n (RY.p (.int .i64 (k:Int)) (by simp[execOp,go_sem,RY.K hk 5 (.int .i64 (k:Int))]))
    |1,rfl=>
     exact RY.n (RY.p (.pointer (some ⟨b0,2,none⟩)) (by simp[execOp,go_sem,RY.K hk 2 (.pointer (some ⟨b0,0,none⟩))]))
    |2,rfl=>
     exact RY.n (RY.p (.slice va n vc) (by simp[execOp,go_sem,RY.E hd 1 7,z2]))
    |3,rfl=>
     exact RY.n (RY.p (.int .i64 (n:Int)) (by simp[go_sem,RY.E hd 2 8]))
    |4,rfl=>
     exact RY.n (RY.p (.bool false) (by simp[execOp,go_sem,RY.E hd 0 6,RY.E hd 3 9,Hs]))
    |5,rfl=>
     exact RY.n (RY.p (.bool false) (by simp[execOp,go_sem,RY.E hd 4 10]))
    |6,rfl|7,rfl|8,rfl|9,rfl|10,rfl|11,rfl|12,rfl|13,rfl|14,rfl=>
     exact RY.off hd 5 11
    |15,rfl=>
     exact RY.n (RY.p (.bool false) (by simp[execOp,go_sem,RY.E hd 5 11,RY.E hd 14 20]))
    |n+16,ho=>simp at ho
   intro X vs hX bg;have q21:vs 21=_:=bg 15 _ 21 rfl rfl;simp only[RY.aC,Act.put,List.setIfInBounds_toArray,List.set_cons_zero,List.set_cons_succ];rw[q21];generalize vs 6=s6,vs 7=s7,vs 8=s8,vs 9=s9,vs 10=s10,vs 11=s11,vs 12=s12,vs 13=s13,vs 14=s14,vs 15=s15,vs 16=s16,vs 17=s17,vs 18=s18,vs 19=s19,vs 20=s20;clear bg q21;have fO:=uh (HO.out.later hX);clear hX HO;obtain⟨lv,wD⟩:∃ z,z=Value.slice va n vc:=⟨_,rfl⟩
   have nC:Hid (Rep X false bF F [bT b.lines] [lv]):=by show Rep _ _ _ _ _ _;rw[wD];exact HL.out.later fO.out.bel
   rw[← wD]at fO;clear wD;obtain⟨s1,s2,vs,G,hR,vV,ko,tQ,kg,tM⟩:=nZ (P:=Tryz.prog) (t:=39) Tryz.eh (Tryz.kM ▸ gF) dJ nC.out k (by have:=HN.out;omega);obtain⟨G2,eR,yB⟩:=og (sh:=aA) lnD oq (k:=k) (x:=x) (by have:=HN.out;omega) hR (OG.out.later fO.out.bel);have fQ:vs.length=n*2:=by rw[hR.len,bj,← HN.out];rfl
   have LW:k*2≤n*2:=by omega
   rw[← qd.out]at eR;rw[← HN.out]at eR tQ;have yn:=uh kg;have wK:=uh tM;have tw:=uh ko;have lP:=uh tQ;have oD:Hid (∀ b∈G2,b<b0):=fun b hb=>by rcases yB b hb with h|h;exact Le.out b (vV b h);exact IH.out b h
   have E9:=uh yB;have Ml:=uh vV;have gW:=uh eR;clear kg tM ko tQ hR vV eR yB nC;go_upto_region 4 with fail
   refine RY.iO X zR 46 2 k (k+1) (n+1) (vs.take (k*2)) (vs.take (k*2)++[.string x.key,.slice xa x.ws.length xc]) (vs.take (k*2)++[.string x.key,.slice xa x.ws.length xc]++vs.drop (k*2)) #[.string x.key,.slice xa x.ws.length xc] (VIn lv s1 s2 k b0 #[.string x.key,.slice xa x.ws.length xc]) (fun u W'=>PtK w b0 b.kind b.name n u G2 ((Pl.ck b.kind b.lines x).flatMap lnD) (vs.take (k*2)++[.string x.key,.slice xa x.ws.length xc]++vs.drop (k*2)) W') 12 24 29 31 32 37 38 (by kernel_rfl) (by kernel_rfl) (by kernel_rfl) (by kernel_rfl) (by kernel_rfl) rfl (by kernel_rfl) _ _ _ _ _ _ _ rfl rfl rfl rfl rfl rfl rfl rfl rfl rfl rfl rfl rfl rfl (by kernel_rfl) (by kernel_rfl) (by kernel_rfl) (by kernel_rfl) (by kernel_rfl) (by kernel_rfl) ?_ ?_ ?_ ?_ ?_ ?_ ?_ ?_ ?_
   ·intro i u h;rcases h with rfl|rfl|rfl|rfl|rfl<;>exact trivial
   ·intro i o' ho n0 n5 n7 n8 n13 n15 a Y hY hk hd;have z2:=(fO.out.box.later hY).get 2 _ rfl;have rx:=(fO.out.arg.later hY).at_;match i,ho with
    |0,ho=>exact absurd rfl n0
    |1,rfl|9,rfl|14,rfl=>
     exact⟨.pointer (some ⟨b0,2,none⟩),by simp[execOp,go_sem,RY.K hk 2 (.pointer (some ⟨b0,0,none⟩))],rfl⟩
    |2,rfl=>
     have e25:a.tmps[25]?.getD undef=_:=(RY.af a 25).trans (hd 1 _ 25 rfl rfl ⟨⟨1,.data⟩,by simp,rfl,rfl⟩);exact⟨lv,by simp[execOp,go_sem,e25,z2],rfl⟩
    |3,rfl|11,rfl=>
     exact⟨.int .i64 (k:Int),by simp[execOp,go_sem,RY.K hk 5 (.int .i64 (k:Int))],rfl⟩
    |4,rfl=>
     have f26:a.eval (.tmp 26)=lv:=hd 2 _ 26 rfl rfl ⟨⟨2,.data⟩,by simp,rfl,rfl⟩;have f27:a.eval (.tmp 27)=.int .i64 (k:Int):=hd 3 _ 27 rfl rfl ⟨⟨3,.data⟩,by simp,rfl,rfl⟩;exact⟨s1,by simp[execOp,f26,f27,run_sliceAt_slice (P:=Tryz.prog) (w:=Y) 39 lv none (some (.int .i64 (k:Int))) none Tryz.eh,yn.out],rfl⟩
    |5,ho=>exact absurd rfl n5
    |6,rfl=>
     exact⟨.agg #[.string x.key,.slice xa x.ws.length xc],ar 46 _ rfl (b0+1) 0 ((RY.af a 3).symm.trans (RY.K hk 3 (.pointer (some ⟨b0+1,0,none⟩)))) [.string x.key,.slice xa x.ws.length xc] _ rx Tryz.underlying46 rfl (by kernel_rfl),rfl⟩
    |7,ho=>exact absurd rfl n7
    |8,ho=>exact absurd rfl n8
    |10,rfl=>
     have e33:a.tmps[33]?.getD undef=_:=(RY.af a 33).trans (hd 9 _ 33 rfl rfl ⟨⟨9,.data⟩,by simp,rfl,rfl⟩);exact⟨lv,by simp[execOp,go_sem,e33,z2],rfl⟩
    |12,rfl=>
     have f34:a.eval (.tmp 34)=lv:=hd 10 _ 34 rfl rfl ⟨⟨10,.data⟩,by simp,rfl,rfl⟩;have f35:a.eval (.tmp 35)=.int .i64 (k:Int):=hd 11 _ 35 rfl rfl ⟨⟨11,.data⟩,by simp,rfl,rfl⟩;exact⟨s2,by simp[execOp,f34,f35,run_sliceAt_slice (P:=Tryz.prog) (w:=Y) 39 lv (some (.int .i64 (k:Int))) none none Tryz.eh,wK.out],rfl⟩
    |13,ho=>exact absurd rfl n13
    |15,ho=>exact absurd rfl n15
    |n+16,ho=>simp at ho
   ·intro a Y;simp[execOp,go_sem]
   ·intro a Y hd;have e30:a.tmps[30]?.getD undef=_:=(RY.af a 30).trans (hd 6 _ 30 rfl rfl ⟨⟨6,.data⟩,by simp,rfl,rfl⟩);simp[execOp,go_sem,e30]
   ·intro a Y hY hd ho;have e28:=hd 4 _ 28 rfl rfl ⟨⟨4,.data⟩,by simp,rfl,rfl⟩;obtain⟨u,W',hr,hA⟩:=gU 39 39 46 i0 _ 2 40 Tryz.cI gF ga dJ gH rfl (by decide) tw.out hY ho (by unfold maxLen;omega) (by omega);rw[Nat.zero_add,List.nil_append]at hA;exact⟨u,W',aQ (.tmp 24) (.tmp 28) 39 rfl rfl e28 hr,hA⟩
   ·intro a Y hY ho q eq hq;obtain⟨u,W',hr,h2,h3,_,h5⟩:=run_append_own_at (P:=Tryz.prog) Y X.heap.size 39 39 46 i0 _ 2 40 Tryz.cI gF ga dJ gH rfl (by decide) _ k _ ho ⟨q,0,none⟩ 1 1 [.string x.key,.slice xa x.ws.length xc] rfl (fun j y hy=>by rw[Addr.add_mid,Nat.zero_add];simp only[World.cell?,hq];simpa using hy) (by simp[Value.oneCell']) (by unfold maxLen;omega) (by omega) hY.size;exact⟨u,W',aQ (.tmp 29) (.tmp 31) 39 rfl rfl eq hr,h2,h3,h5⟩
   ·intro a Y hY hd ho;have e36:=hd 12 _ 36 rfl rfl ⟨⟨12,.data⟩,by simp,rfl,rfl⟩;obtain⟨u,W',hr,hA⟩:=gU 39 39 46 i0 _ 2 40 Tryz.cI gF ga dJ gH rfl (by decide) lP.out hY ho (by unfold maxLen;omega) (by omega);have en:k+1+(n - k)=n+1:=by omega
    rw[en]at hA;exact⟨u,W',aQ (.tmp 32) (.tmp 36) 39 rfl rfl e36 hr,hA⟩
   ·intro a Y hY K6 ho;obtain⟨g,cap,eu,_,_⟩:=ho.form (by omega);have t37:=(RY.af a 37).trans eu;have t38:a.tmps[38]?.getD undef=_:=(RY.af a 38).trans K6;have B1:=fO.out.box.later hY;have z2:=B1.get 2 _ rfl;have zf:=B1.own.frozen 2;refine⟨Y.setCell ⟨b0,2,none⟩ (.slice (some ⟨g,0,none⟩) (n+1) cap),by simp[execOp,go_sem,t37,t38,z2,zf], ?_⟩;rw[eu]at ho ⊢;exact PtK.mk' kW.out (fO.out.later hY) (by have:=fO.out.res.own.lt;omega) ho (gW.out.later hY) oD.out
   ·rintro vals W hK;simp only[RY.aC,Act.put,List.setIfInBounds_toArray,List.set_cons_zero,List.set_cons_succ];generalize vals 24=s24;generalize vals 25=s25;generalize vals 26=s26;generalize vals 27=s27;generalize vals 28=s28;generalize vals 29=s29;generalize vals 30=s30;generalize vals 31=sr;generalize vals 32=qw;generalize vals 33=qM;generalize vals 34=qX;generalize vals 35=lN;generalize vals 36=lI;generalize vals 37=lR at hK ⊢;generalize vals 38=nu;obtain⟨g,cap,eu⟩:=hK.form;subst eu;have HK:=uh hK;clear hK fO yn wK tw lP gW;go_upto_region 5 with fail
    have mN:=HK.out.box.at_;have gD:=HK.out.box.own.lt;have oG:=HK.out.res.own.lt;have cp:W.there (b0+2) 0 (#[.string b.kind,.string b.name,.slice (some ⟨g,0,none⟩) (n+1) cap]:Array Value).size:=aR HK.out.res.own _ _ (by simp);obtain⟨we,bM⟩:∃ we,we=W.setCells (b0+2) 0 [.string b.kind,.string b.name,.slice (some ⟨g,0,none⟩) (n+1) cap]:=⟨_,rfl⟩
    have fT:we.rangeAt (b0+2) 0 [.string b.kind,.string b.name,.slice (some ⟨g,0,none⟩) (n+1) cap]:=by rw[bM];exact World.rangeAt_setCells_same _ _ _ _ cp
    have nO:Hid (Marks (fun b=>b=b0+2) W we):=by show Marks _ _ _;rw[bM];exact aM (S:=fun b=>b=b0+2) rfl _ _ _
    go_wp2_with (first|(refine wpList_load_mid rfl 41 _ rfl b0 0 rfl [.string b.kind,.string b.name,.slice (some ⟨g,0,none⟩) (n+1) cap] _ mN Tryz.underlying41 rfl (by kernel_rfl) ?_)|(refine wpList_store_mid rfl 41 _ _ rfl (b0+2) 0 #[.string b.kind,.string b.name,.slice (some ⟨g,0,none⟩) (n+1) cap] rfl rfl cp (by kernel_rfl) (by simp[Value.oneCell']) ?_))
    first|rw[← bM]|(simp only[List.toList_toArray];rw[← bM])
    try simp only[Act.put]
    refine bodyPost_ret (v:=.agg #[.string b.kind,.string b.name,.slice (some ⟨g,0,none⟩) (n+1) cap]) (by simp[results,Tryz.results14,asAddr,run_loadVar_mid (P:=Tryz.prog) _ _ _ 41 [.string b.kind,.string b.name,.slice (some ⟨g,0,none⟩) (n+1) cap] _ fT Tryz.underlying41 rfl (by kernel_rfl)]) rfl ?_;exact HK.out.ans kW.out nO.out oD.out je.out (fun b hb=>by rcases E9.out b hb with h|h;exact Or.inl (Ml.out b h);exact Or.inr (by simpa using h))
  have iF:k<b.lines.length:=by have:=HN.out;omega
  rcases cE (HL.out.later HO.out.bel).raw with⟨e0,_⟩|⟨p,o,c,hv,hp,fK,aO⟩
  ·omega
  rw[← HN.out]at hv;injection hv with g1 _ g3
  subst g1;subst g3;obtain⟨ya,yc,nx,qP⟩:=aO k iF;obtain⟨y,hy⟩:∃ y,y=b.lines.getD k Pl.aK:=⟨_,rfl⟩
  rw[← hy]at nx qP;have HY:=uh hy;have FN:=uh nx;have fB:=uh hp;have B8:=uh (M5.out.later HO.out.bel);have Jg:=uh qP;have Hs:(k:Int)<(n:Int):=by omega
  have ec:(0:Int)≤(k:Int):=by omega
  have dP:(k:Int)<(n:Int):=by omega
  clear hy nx qP hp aO fK;cases gJ:Pl.aL b.kind y x
  ·have nK:Hid (∀ X,Bel wr X→Calls Tryz.prog 34 #[.string b.kind,.agg #[.string y.key,.slice ya y.ws.length yc],.agg #[.string x.key,.slice xa x.ws.length xc]] X fun e w'=>e=.returned (.bool false)∧Bel X w'):=fun X hX=>by
    have:=iP b.kind y x ya xa yc xc X (Jg.out.later hX) (B8.out.later hX).raw;rwa [gJ]at this
   have qd:Hid (Pl.ck b.kind b.lines x=b.lines.take k++x::b.lines.drop k):=OP.out (Or.inr (by rw[← HY.out];exact gJ));have je:Hid ((Pl.ck b.kind b.lines x).length=n+1):=by show _=_;rw[qd.out,List.length_append,List.length_cons,List.length_take,List.length_drop];have:=HN.out;omega
   go_upto_region 2 with fail
   refine RY.aH wr zR (VPc b x y (some ⟨p,o,none⟩) xa ya vc xc yc p o n k b0) (Dn _ _ _ _ _ _ _ _ _ _ _ _ _ _) (by kernel_rfl) (by kernel_rfl) (by kernel_rfl) (by kernel_rfl) ?_ ?_
   ·intro i o' ho a X hX hk hd;have z0:=(HO.out.box.later hX).get 0 _ rfl;have z2:=(HO.out.box.later hX).get 2 _ rfl;have rx:=(HO.out.arg.later hX).at_;have ry:=aB FN.out fB.out hX;match i,ho with
    |0,rfl=>
     exact RY.n (RY.p (.int .i64 (k:Int)) (by simp[execOp,go_sem,RY.K hk 5 (.int .i64 (k:Int))]))
    |1,rfl=>
     exact RY.n (RY.p (.pointer (some ⟨b0,2,none⟩)) (by simp[execOp,go_sem,RY.K hk 2 (.pointer (some ⟨b0,0,none⟩))]))
    |2,rfl=>
     exact RY.n (RY.p (.slice (some ⟨p,o,none⟩) n vc) (by simp[execOp,go_sem,RY.E hd 1 7,z2]))
    |3,rfl=>
     exact RY.n (RY.p (.int .i64 (n:Int)) (by simp[go_sem,RY.E hd 2 8]))
    |4,rfl=>
     exact RY.n (RY.p (.bool true) (by simp[execOp,go_sem,RY.E hd 0 6,RY.E hd 3 9,Hs]))
    |5,rfl=>
     exact RY.n (RY.p (.bool true) (by simp[execOp,go_sem,RY.E hd 4 10]))
    |6,rfl=>
     exact RY.on hd 5 11 (RY.p (.pointer (some ⟨b0,0,none⟩)) (by simp[execOp,go_sem,RY.K hk 2 (.pointer (some ⟨b0,0,none⟩))]))
    |7,rfl=>
     exact RY.on hd 5 11 (RY.p (.string b.kind) (by simp[execOp,go_sem,RY.E hd 6 12,z0]))
    |8,rfl=>
     exact RY.on hd 5 11 (RY.p (.pointer (some ⟨b0,2,none⟩)) (by simp[execOp,go_sem,RY.K hk 2 (.pointer (some ⟨b0,0,none⟩))]))
    |9,rfl=>
     exact RY.on hd 5 11 (RY.p (.slice (some ⟨p,o,none⟩) n vc) (by simp[execOp,go_sem,RY.E hd 8 14,z2]))
    |10,rfl=>
     exact RY.on hd 5 11 (RY.p (.int .i64 (k:Int)) (by simp[execOp,go_sem,RY.K hk 5 (.int .i64 (k:Int))]))
    |11,rfl=>
     exact RY.on hd 5 11 (RY.p (.pointer (some ⟨p,o+k*2,none⟩)) (by simp[execOp,go_sem,RY.E hd 9 15,RY.E hd 10 16,ec,dP]))
    |12,rfl=>
     have gd:=hd 5 _ 11 rfl rfl ⟨⟨5,.guard⟩,by simp,rfl,rfl⟩;exact Or.inl ⟨(RY.aj rfl rfl rfl gd).trans rfl,Or.inl ⟨.agg #[.string y.key,.slice ya y.ws.length yc],X,ar 46 _ rfl p (o+k*2) ((RY.af a 17).symm.trans (RY.E hd 11 17)) [.string y.key,.slice ya y.ws.length yc] _ ry Tryz.underlying46 rfl (by kernel_rfl),zR,rfl⟩⟩
    |13,rfl=>
     have gd:=hd 5 _ 11 rfl rfl ⟨⟨5,.guard⟩,by simp,rfl,rfl⟩;exact Or.inl ⟨(RY.aj rfl rfl rfl gd).trans rfl,Or.inl ⟨.agg #[.string x.key,.slice xa x.ws.length xc],X,ar 46 _ rfl (b0+1) 0 ((RY.af a 3).symm.trans (RY.K hk 3 (.pointer (some ⟨b0+1,0,none⟩)))) [.string x.key,.slice xa x.ws.length xc] _ rx Tryz.underlying46 rfl (by kernel_rfl),zR,rfl⟩⟩
    |14,rfl=>
     have e13:=RY.E hd 7 13;have e18:=RY.E hd 12 18;have e19:=RY.E hd 13 19;refine RY.on hd 5 11 (.inr ⟨34,#[.string b.kind,.agg #[.string y.key,.slice ya y.ws.length yc],.agg #[.string x.key,.slice xa x.ws.length xc]],by simp[go_sem,e13,e18,e19],(nK.out X hX).mono ?_⟩);rintro e W' ⟨rfl,hb⟩;exact⟨_,rfl,hb,rfl⟩
    |15,rfl=>
     exact RY.n (RY.p (.bool false) (by simp[execOp,go_sem,RY.E hd 5 11,RY.E hd 14 20]))
    |n+16,ho=>simp at ho
   intro X vs hX bg;have q21:vs 21=_:=bg 15 _ 21 rfl rfl;simp only[RY.aC,Act.put,List.setIfInBounds_toArray,List.set_cons_zero,List.set_cons_succ];rw[q21];generalize vs 6=s6,vs 7=s7,vs 8=s8,vs 9=s9,vs 10=s10,vs 11=s11,vs 12=s12,vs 13=s13,vs 14=s14,vs 15=s15,vs 16=s16,vs 17=s17,vs 18=s18,vs 19=s19,vs 20=s20;clear bg q21;have fO:=uh (HO.out.later hX);clear hX HO;obtain⟨lv,wD⟩:∃ z,z=Value.slice (some ⟨p,o,none⟩) n vc:=⟨_,rfl⟩
   have nC:Hid (Rep X false bF F [bT b.lines] [lv]):=by show Rep _ _ _ _ _ _;rw[wD];exact HL.out.later fO.out.bel
   rw[← wD]at fO;clear wD;obtain⟨s1,s2,vs,G,hR,vV,ko,tQ,kg,tM⟩:=nZ (P:=Tryz.prog) (t:=39) Tryz.eh (Tryz.kM ▸ gF) dJ nC.out k (by have:=HN.out;omega);obtain⟨G2,eR,yB⟩:=og (sh:=aA) lnD oq (k:=k) (x:=x) (by have:=HN.out;omega) hR (OG.out.later fO.out.bel);have fQ:vs.length=n*2:=by rw[hR.len,bj,← HN.out];rfl
   have LW:k*2≤n*2:=by omega
   rw[← qd.out]at eR;rw[← HN.out]at eR tQ;have yn:=uh kg;have wK:=uh tM;have tw:=uh ko;have lP:=uh tQ;have oD:Hid (∀ b∈G2,b<b0):=fun b hb=>by rcases yB b hb with h|h;exact Le.out b (vV b h);exact IH.out b h
   have E9:=uh yB;have Ml:=uh vV;have gW:=uh eR;clear kg tM ko tQ hR vV eR yB nC;go_upto_region 4 with fail
   refine RY.iO X zR 46 2 k (k+1) (n+1) (vs.take (k*2)) (vs.take (k*2)++[.string x.key,.slice xa x.ws.length xc]) (vs.take (k*2)++[.string x.key,.slice xa x.ws.length xc]++vs.drop (k*2)) #[.string x.key,.slice xa x.ws.length xc] (VIn lv s1 s2 k b0 #[.string x.key,.slice xa x.ws.length xc]) (fun u W'=>PtK w b0 b.kind b.name n u G2 ((Pl.ck b.kind b.lines x).flatMap lnD) (vs.take (k*2)++[.string x.key,.slice xa x.ws.length xc]++vs.drop (k*2)) W') 12 24 29 31 32 37 38 (by kernel_rfl) (by kernel_rfl) (by kernel_rfl) (by kernel_rfl) (by kernel_rfl) rfl (by kernel_rfl) _ _ _ _ _ _ _ rfl rfl rfl rfl rfl rfl rfl rfl rfl rfl rfl rfl rfl rfl (by kernel_rfl) (by kernel_rfl) (by kernel_rfl) (by kernel_rfl) (by kernel_rfl) (by kernel_rfl) ?_ ?_ ?_ ?_ ?_ ?_ ?_ ?_ ?_
   ·intro i u h;rcases h with rfl|rfl|rfl|rfl|rfl<;>exact trivial
   ·intro i o' ho n0 n5 n7 n8 n13 n15 a Y hY hk hd;have z2:=(fO.out.box.later hY).get 2 _ rfl;have rx:=(fO.out.arg.later hY).at_;match i,ho with
    |0,ho=>exact absurd rfl n0
    |1,rfl|9,rfl|14,rfl=>
     exact⟨.pointer (some ⟨b0,2,none⟩),by simp[execOp,go_sem,RY.K hk 2 (.pointer (some ⟨b0,0,none⟩))],rfl⟩
    |2,rfl=>
     have e25:a.tmps[25]?.getD undef=_:=(RY.af a 25).trans (hd 1 _ 25 rfl rfl ⟨⟨1,.data⟩,by simp,rfl,rfl⟩);exact⟨lv,by simp[execOp,go_sem,e25,z2],rfl⟩
    |3,rfl|11,rfl=>
     exact⟨.int .i64 (k:Int),by simp[execOp,go_sem,RY.K hk 5 (.int .i64 (k:Int))],rfl⟩
    |4,rfl=>
     have f26:a.eval (.tmp 26)=lv:=hd 2 _ 26 rfl rfl ⟨⟨2,.data⟩,by simp,rfl,rfl⟩;have f27:a.eval (.tmp 27)=.int .i64 (k:Int):=hd 3 _ 27 rfl rfl ⟨⟨3,.data⟩,by simp,rfl,rfl⟩;exact⟨s1,by simp[execOp,f26,f27,run_sliceAt_slice (P:=Tryz.prog) (w:=Y) 39 lv none (some (.int .i64 (k:Int))) none Tryz.eh,yn.out],rfl⟩
    |5,ho=>exact absurd rfl n5
    |6,rfl=>
     exact⟨.agg #[.string x.key,.slice xa x.ws.length xc],ar 46 _ rfl (b0+1) 0 ((RY.af a 3).symm.trans (RY.K hk 3 (.pointer (some ⟨b0+1,0,none⟩)))) [.string x.key,.slice xa x.ws.length xc] _ rx Tryz.underlying46 rfl (by kernel_rfl),rfl⟩
    |7,ho=>exact absurd rfl n7
    |8,ho=>exact absurd rfl n8
    |10,rfl=>
     have e33:a.tmps[33]?.getD undef=_:=(RY.af a 33).trans (hd 9 _ 33 rfl rfl ⟨⟨9,.data⟩,by simp,rfl,rfl⟩);exact⟨lv,by simp[execOp,go_sem,e33,z2],rfl⟩
    |12,rfl=>
     have f34:a.eval (.tmp 34)=lv:=hd 10 _ 34 rfl rfl ⟨⟨10,.data⟩,by simp,rfl,rfl⟩;have f35:a.eval (.tmp 35)=.int .i64 (k:Int):=hd 11 _ 35 rfl rfl ⟨⟨11,.data⟩,by simp,rfl,rfl⟩;exact⟨s2,by simp[execOp,f34,f35,run_sliceAt_slice (P:=Tryz.prog) (w:=Y) 39 lv (some (.int .i64 (k:Int))) none none Tryz.eh,wK.out],rfl⟩
    |13,ho=>exact absurd rfl n13
    |15,ho=>exact absurd rfl n15
    |n+16,ho=>simp at ho
   ·intro a Y;simp[execOp,go_sem]
   ·intro a Y hd;have e30:a.tmps[30]?.getD undef=_:=(RY.af a 30).trans (hd 6 _ 30 rfl rfl ⟨⟨6,.data⟩,by simp,rfl,rfl⟩);simp[execOp,go_sem,e30]
   ·intro a Y hY hd ho;have e28:=hd 4 _ 28 rfl rfl ⟨⟨4,.data⟩,by simp,rfl,rfl⟩;obtain⟨u,W',hr,hA⟩:=gU 39 39 46 i0 _ 2 40 Tryz.cI gF ga dJ gH rfl (by decide) tw.out hY ho (by unfold maxLen;omega) (by omega);rw[Nat.zero_add,List.nil_append]at hA;exact⟨u,W',aQ (.tmp 24) (.tmp 28) 39 rfl rfl e28 hr,hA⟩
   ·intro a Y hY ho q eq hq;obtain⟨u,W',hr,h2,h3,_,h5⟩:=run_append_own_at (P:=Tryz.prog) Y X.heap.size 39 39 46 i0 _ 2 40 Tryz.cI gF ga dJ gH rfl (by decide) _ k _ ho ⟨q,0,none⟩ 1 1 [.string x.key,.slice xa x.ws.length xc] rfl (fun j y hy=>by rw[Addr.add_mid,Nat.zero_add];simp only[World.cell?,hq];simpa using hy) (by simp[Value.oneCell']) (by unfold maxLen;omega) (by omega) hY.size;exact⟨u,W',aQ (.tmp 29) (.tmp 31) 39 rfl rfl eq hr,h2,h3,h5⟩
   ·intro a Y hY hd ho;have e36:=hd 12 _ 36 rfl rfl ⟨⟨12,.data⟩,by simp,rfl,rfl⟩;obtain⟨u,W',hr,hA⟩:=gU 39 39 46 i0 _ 2 40 Tryz.cI gF ga dJ gH rfl (by decide) lP.out hY ho (by unfold maxLen;omega) (by omega);have en:k+1+(n - k)=n+1:=by omega
    rw[en]at hA;exact⟨u,W',aQ (.tmp 32) (.tmp 36) 39 rfl rfl e36 hr,hA⟩
   ·intro a Y hY K6 ho;obtain⟨g,cap,eu,_,_⟩:=ho.form (by omega);have t37:=(RY.af a 37).trans eu;have t38:a.tmps[38]?.getD undef=_:=(RY.af a 38).trans K6;have B1:=fO.out.box.later hY;have z2:=B1.get 2 _ rfl;have zf:=B1.own.frozen 2;refine⟨Y.setCell ⟨b0,2,none⟩ (.slice (some ⟨g,0,none⟩) (n+1) cap),by simp[execOp,go_sem,t37,t38,z2,zf], ?_⟩;rw[eu]at ho ⊢;exact PtK.mk' kW.out (fO.out.later hY) (by have:=fO.out.res.own.lt;omega) ho (gW.out.later hY) oD.out
   ·rintro vals W hK;simp only[RY.aC,Act.put,List.setIfInBounds_toArray,List.set_cons_zero,List.set_cons_succ];generalize vals 24=s24;generalize vals 25=s25;generalize vals 26=s26;generalize vals 27=s27;generalize vals 28=s28;generalize vals 29=s29;generalize vals 30=s30;generalize vals 31=sr;generalize vals 32=qw;generalize vals 33=qM;generalize vals 34=qX;generalize vals 35=lN;generalize vals 36=lI;generalize vals 37=lR at hK ⊢;generalize vals 38=nu;obtain⟨g,cap,eu⟩:=hK.form;subst eu;have HK:=uh hK;clear hK fO yn wK tw lP gW;go_upto_region 5 with fail
    have mN:=HK.out.box.at_;have gD:=HK.out.box.own.lt;have oG:=HK.out.res.own.lt;have cp:W.there (b0+2) 0 (#[.string b.kind,.string b.name,.slice (some ⟨g,0,none⟩) (n+1) cap]:Array Value).size:=aR HK.out.res.own _ _ (by simp);obtain⟨we,bM⟩:∃ we,we=W.setCells (b0+2) 0 [.string b.kind,.string b.name,.slice (some ⟨g,0,none⟩) (n+1) cap]:=⟨_,rfl⟩
    have fT:we.rangeAt (b0+2) 0 [.string b.kind,.string b.name,.slice (some ⟨g,0,none⟩) (n+1) cap]:=by rw[bM];exact World.rangeAt_setCells_same _ _ _ _ cp
    have nO:Hid (Marks (fun b=>b=b0+2) W we):=by show Marks _ _ _;rw[bM];exact aM (S:=fun b=>b=b0+2) rfl _ _ _
    go_wp2_with (first|(refine wpList_load_mid rfl 41 _ rfl b0 0 rfl [.string b.kind,.string b.name,.slice (some ⟨g,0,none⟩) (n+1) cap] _ mN Tryz.underlying41 rfl (by kernel_rfl) ?_)|(refine wpList_store_mid rfl 41 _ _ rfl (b0+2) 0 #[.string b.kind,.string b.name,.slice (some ⟨g,0,none⟩) (n+1) cap] rfl rfl cp (by kernel_rfl) (by simp[Value.oneCell']) ?_))
    first|rw[← bM]|(simp only[List.toList_toArray];rw[← bM])
    try simp only[Act.put]
    refine bodyPost_ret (v:=.agg #[.string b.kind,.string b.name,.slice (some ⟨g,0,none⟩) (n+1) cap]) (by simp[results,Tryz.results14,asAddr,run_loadVar_mid (P:=Tryz.prog) _ _ _ 41 [.string b.kind,.string b.name,.slice (some ⟨g,0,none⟩) (n+1) cap] _ fT Tryz.underlying41 rfl (by kernel_rfl)]) rfl ?_;exact HK.out.ans kW.out nO.out oD.out je.out (fun b hb=>by rcases E9.out b hb with h|h;exact Or.inl (Ml.out b h);exact Or.inr (by simpa using h))
  ·have nK:Hid (∀ X,Bel wr X→Calls Tryz.prog 34 #[.string b.kind,.agg #[.string y.key,.slice ya y.ws.length yc],.agg #[.string x.key,.slice xa x.ws.length xc]] X fun e w'=>e=.returned (.bool true)∧Bel X w'):=fun X hX=>by
    have:=iP b.kind y x ya xa yc xc X (Jg.out.later hX) (B8.out.later hX).raw;rwa [gJ]at this
   have E9:Hid (∀ j,j<k+1→Pl.aL b.kind (b.lines.getD j Pl.aK) x=true):=fun j hj=>by
    by_cases e:j=k
    ·rw[e,← HY.out];exact gJ
    ·exact HI.out j (by omega)
   go_upto_region 2 with fail
   refine RY.aH wr zR (VPb b x y (some ⟨p,o,none⟩) xa ya vc xc yc p o n k b0) (DP _ _ _ _ _ _ _ _ _ _ _ _ _ _) (by kernel_rfl) (by kernel_rfl) (by kernel_rfl) (by kernel_rfl) ?_ ?_
   ·intro i o' ho a X hX hk hd;have z0:=(HO.out.box.later hX).get 0 _ rfl;have z2:=(HO.out.box.later hX).get 2 _ rfl;have rx:=(HO.out.arg.later hX).at_;have ry:=aB FN.out fB.out hX;match i,ho with
    |0,rfl=>
     exact RY.n (RY.p (.int .i64 (k:Int)) (by simp[execOp,go_sem,RY.K hk 5 (.int .i64 (k:Int))]))
    |1,rfl=>
     exact RY.n (RY.p (.pointer (some ⟨b0,2,none⟩)) (by simp[execOp,go_sem,RY.K hk 2 (.pointer (some ⟨b0,0,none⟩))]))
    |2,rfl=>
     exact RY.n (RY.p (.slice (some ⟨p,o,none⟩) n vc) (by simp[execOp,go_sem,RY.E hd 1 7,z2]))
    |3,rfl=>
     exact RY.n (RY.p (.int .i64 (n:Int)) (by simp[go_sem,RY.E hd 2 8]))
    |4,rfl=>
     exact RY.n (RY.p (.bool true) (by simp[execOp,go_sem,RY.E hd 0 6,RY.E hd 3 9,Hs]))
    |5,rfl=>
     exact RY.n (RY.p (.bool true) (by simp[execOp,go_sem,RY.E hd 4 10]))
    |6,rfl=>
     exact RY.on hd 5 11 (RY.p (.pointer (some ⟨b0,0,none⟩)) (by simp[execOp,go_sem,RY.K hk 2 (.pointer (some ⟨b0,0,none⟩))]))
    |7,rfl=>
     exact RY.on hd 5 11 (RY.p (.string b.kind) (by simp[execOp,go_sem,RY.E hd 6 12,z0]))
    |8,rfl=>
     exact RY.on hd 5 11 (RY.p (.pointer (some ⟨b0,2,none⟩)) (by simp[execOp,go_sem,RY.K hk 2 (.pointer (some ⟨b0,0,none⟩))]))
    |9,rfl=>
     exact RY.on hd 5 11 (RY.p (.slice (some ⟨p,o,none⟩) n vc) (by simp[execOp,go_sem,RY.E hd 8 14,z2]))
    |10,rfl=>
     exact RY.on hd 5 11 (RY.p (.int .i64 (k:Int)) (by simp[execOp,go_sem,RY.K hk 5 (.int .i64 (k:Int))]))
    |11,rfl=>
     exact RY.on hd 5 11 (RY.p (.pointer (some ⟨p,o+k*2,none⟩)) (by simp[execOp,go_sem,RY.E hd 9 15,RY.E hd 10 16,ec,dP]))
    |12,rfl=>
     have gd:=hd 5 _ 11 rfl rfl ⟨⟨5,.guard⟩,by simp,rfl,rfl⟩;exact Or.inl ⟨(RY.aj rfl rfl rfl gd).trans rfl,Or.inl ⟨.agg #[.string y.key,.slice ya y.ws.length yc],X,ar 46 _ rfl p (o+k*2) ((RY.af a 17).symm.trans (RY.E hd 11 17)) [.string y.key,.slice ya y.ws.length yc] _ ry Tryz.underlying46 rfl (by kernel_rfl),zR,rfl⟩⟩
    |13,rfl=>
     have gd:=hd 5 _ 11 rfl rfl ⟨⟨5,.guard⟩,by simp,rfl,rfl⟩;exact Or.inl ⟨(RY.aj rfl rfl rfl gd).trans rfl,Or.inl ⟨.agg #[.string x.key,.slice xa x.ws.length xc],X,ar 46 _ rfl (b0+1) 0 ((RY.af a 3).symm.trans (RY.K hk 3 (.pointer (some ⟨b0+1,0,none⟩)))) [.string x.key,.slice xa x.ws.length xc] _ rx Tryz.underlying46 rfl (by kernel_rfl),zR,rfl⟩⟩
    |14,rfl=>
     have e13:=RY.E hd 7 13;have e18:=RY.E hd 12 18;have e19:=RY.E hd 13 19;refine RY.on hd 5 11 (.inr ⟨34,#[.string b.kind,.agg #[.string y.key,.slice ya y.ws.length yc],.agg #[.string x.key,.slice xa x.ws.length xc]],by simp[go_sem,e13,e18,e19],(nK.out X hX).mono ?_⟩);rintro e W' ⟨rfl,hb⟩;exact⟨_,rfl,hb,rfl⟩
    |15,rfl=>
     exact RY.n (RY.p (.bool true) (by simp[execOp,go_sem,RY.E hd 5 11,RY.E hd 14 20]))
    |n+16,ho=>simp at ho
   intro X vs hX bg;have q21:vs 21=_:=bg 15 _ 21 rfl rfl;simp only[RY.aC,Act.put,List.setIfInBounds_toArray,List.set_cons_zero,List.set_cons_succ];rw[q21];generalize vs 6=s6,vs 7=s7,vs 8=s8,vs 9=s9,vs 10=s10,vs 11=s11,vs 12=s12,vs 13=s13,vs 14=s14,vs 15=s15,vs 16=s16,vs 17=s17,vs 18=s18,vs 19=s19,vs 20=s20;clear bg q21;have fO:=uh (HO.out.later hX);clear hX HO;go_wp2;go_roundw
   case rel=>exact⟨k+1,by omega,by go_num,fO.out,E9.out⟩
   case measure=>simp[intOf];omega
end Go.Proofs.YtopjjknojnfhmaaGreatDoor
