import Derived.Maps.AppendAt
import Derived.Laws.OwnMore
import Derived.Test.YtmgibmmpopoboaaEPt
import Derived.Test.YtmgibmmpopoboaaELc
import Derived.Test.YtmgibmmpopoboaaECy
import Derived.Test.YtmgibmmpopoboaaEGo
import Derived.Test.YtmgibmmpopoboaaEGn
namespace Go.Proofs.Ytmgibmmpopoboaa
open Go.RowKit Go.Deep
namespace RY
def zh (v:World) (t:TypeId) (size:Nat) (W:World) (r u:Value) (n:Nat) (xs:List Value) (W':World):Prop:=W'.ownsRow v.heap.size t size u n xs∧W.grownBy W' r.ownBlock∧(u.ownBlock=r.ownBlock∨u.ownBlock=some W.heap.size)
structure TI (v:World) (t:TypeId) (size n5 n8 n13:Nat) (x5 x8 x13:List Value) (nw:Array Value) (K:Value→World→Prop) (u0 u5 u7 u8 u13 u15:Bool) (v0 v5 v7 v8 v13:Value) (W:World):Prop where
 bel:u15=false→Bel v W
 c0:u0=true→u5=false→W.ownsRow v.heap.size t size v0 0 []
 c5:u5=true→u8=false→W.ownsRow v.heap.size t size v5 n5 x5
 c8:u8=true→u13=false→W.ownsRow v.heap.size t size v8 n8 x8
 c13:u13=true→u15=false→W.ownsRow v.heap.size t size v13 n13 x13
 c7:u7=true→u8=false→∃ q,v7=.slice (some ⟨q,0,none⟩) 1 1∧W.heap[q]? =some (.cells nw t (0,0))∧(u0=true→u5=false→v0.ownBlock≠some q)∧(u5=true→v5.ownBlock≠some q)
 c15:u15=true→K v13 W
theorem p4 {v W W':World} {t:TypeId} {size n m:Nat} {r u:Value} {xs ys:List Value} (h:Bel v W) (ho:W.ownsRow v.heap.size t size r m ys) (ha:zh v t size W r u n xs W'):Bel v W':=
 fg h ha.2.1 fun _ hb=>(bK ho hb).1
theorem Ay {W W':World} {row:Option Nat} {q:Nat} {o:Obj} (hg:W.grownBy W' row) (hq:W.heap[q]? =some o) (hn:row≠some q):W'.heap[q]? =some o:=
 (hg.block q (Array.getElem?_eq_some_iff.1 hq).1 fun e=>hn e.symm).trans hq
theorem ig {P:Program} {id:Nat} {Q:Exit→Act→World→Prop} {a0:Act} {w:World} {l:List Oper} (v:World) (hv:Bel v w) (t:TypeId) (size n5 n8 n13:Nat) (x5 x8 x13:List Value) (nw:Array Value) (V:Nat→Value→Prop) (K:Value→World→Prop) (fuel k0 k5 k7 k8 k13 k14:Nat)
  (hm:P.follows .mixedOrders=true) (hasc:asc .any l.toArray=true) (hap:cZ l=true) (dc:dr l a0.tmps.size=true)
  (hclo:((List.range 15).all fun i=>(clo l fuel [15]).contains i)=true) (hlen:l.length=16) (jO:((l.take 15).all fun o=>o.dst.isSome)=true)
  (o0 o5 o7 o8 o13 o14 o15:Oper) (q0:l[0]? =some o0) (q5:l[5]? =some o5) (q7:l[7]? =some o7) (q8:l[8]? =some o8) (q13:l[13]? =some o13) (q14:l[14]? =some o14) (q15:l[15]? =some o15)
  (d0:o0.dst=some k0) (d5:o5.dst=some k5) (d7:o7.dst=some k7) (d8:o8.dst=some k8) (d13:o13.dst=some k13) (d14:o14.dst=some k14) (d15:o15.dst=none)
  (w5:waits l 5 0=true) (w8:waits l 8 5=true) (w87:waits l 8 7=true) (tE:waits l 13 8=true) (tD:waits l 15 13=true) (uV:waits l 15 14=true)
  (hVT:∀ i u,i=0∨i=5∨i=7∨i=8∨i=13→V i u)
  (jc:∀ (i:Nat) (o:Oper),l[i]? =some o→i≠0→i≠5→i≠7→i≠8→i≠13→i≠15→∀ (a:Act) (W:World),Bel v W→(∀ k,cW l k=true→a.eval (.tmp k)=a0.eval (.tmp k))→
   (∀ (j:Nat) (o':Oper) (k:Nat),l[j]? =some o'→o'.dst=some k→(∃ e∈o.after,e.on=j∧Region.binds .any e=true)→V j (a.eval (.tmp k)))→∃ u,(execOp a.eval o).run P W=.ok (.value u) W∧V i u)
  (h0:∀ (a:Act) (W:World),(execOp a.eval o0).run P W=.ok (.value (.slice (some ⟨W.heap.size,0,none⟩) 0 0)) (W.alloc (.cells #[] t)))
  (h7:∀ (a:Act) (W:World),(∀ (j:Nat) (o':Oper) (k:Nat),l[j]? =some o'→o'.dst=some k→(∃ e∈o7.after,e.on=j∧Region.binds .any e=true)→V j (a.eval (.tmp k)))→(execOp a.eval o7).run P W=.ok (.value (.slice (some ⟨W.heap.size,0,none⟩) 1 1)) (W.alloc (.cells nw t)))
  (h5:∀ (a:Act) (W:World),Bel v W→(∀ (j:Nat) (o':Oper) (k:Nat),l[j]? =some o'→o'.dst=some k→(∃ e∈o5.after,e.on=j∧Region.binds .any e=true)→V j (a.eval (.tmp k)))→W.ownsRow v.heap.size t size (a.eval (.tmp k0)) 0 []→∃ u W',(execOp a.eval o5).run P W=.ok (.value u) W'∧zh v t size W (a.eval (.tmp k0)) u n5 x5 W')
  (h8:∀ (a:Act) (W:World),Bel v W→W.ownsRow v.heap.size t size (a.eval (.tmp k5)) n5 x5→∀ q,a.eval (.tmp k7)=.slice (some ⟨q,0,none⟩) 1 1→W.heap[q]? =some (.cells nw t (0,0))→∃ u W',(execOp a.eval o8).run P W=.ok (.value u) W'∧zh v t size W (a.eval (.tmp k5)) u n8 x8 W')
  (h13:∀ (a:Act) (W:World),Bel v W→(∀ (j:Nat) (o':Oper) (k:Nat),l[j]? =some o'→o'.dst=some k→(∃ e∈o13.after,e.on=j∧Region.binds .any e=true)→V j (a.eval (.tmp k)))→W.ownsRow v.heap.size t size (a.eval (.tmp k8)) n8 x8→∃ u W',(execOp a.eval o13).run P W=.ok (.value u) W'∧zh v t size W (a.eval (.tmp k8)) u n13 x13 W')
  (h15:∀ (a:Act) (W:World),Bel v W→V 14 (a.eval (.tmp k14))→W.ownsRow v.heap.size t size (a.eval (.tmp k13)) n13 x13→∃ W',(execOp a.eval o15).run P W=.ok .skip W'∧K (a.eval (.tmp k13)) W')
  (hend:∀ (vs:Nat→Value) (W:World),K (vs k13) W→Q .normal (aE l a0 vs) W):
  (Code.region id l.toArray true).wp P Q a0 w:=by
 have fA:∀ {i:Nat} {o:Oper},l[i]? =some o→i<15→o.dst.isSome=true:=fun h hi=>by
  rw[List.all_eq_true]at jO;exact jO _ (List.mem_of_getElem? ((List.getElem?_take_of_lt hi).trans h))
 refine jy V (fun up vals W=>TI v t size n5 n8 n13 x5 x8 x13 nw K (up 0) (up 5) (up 7) (up 8) (up 13) (up 15) (vals 0) (vals 5) (vals 7) (vals 8) (vals 13) W) hm hasc hap dc ?_ ?_ ?_
 ·intro vals;exact⟨fun _=>Below.drew hv,fun h=>(by cases h),fun h=>(by cases h),fun h=>(by cases h),fun h=>(by cases h),fun h=>(by cases h),fun h=>(by cases h)⟩
 ·intro up vals i o ho hi gk a W hk hd hT;have vU:∀ k,cW l k=true→a.eval (.tmp k)=a0.eval (.tmp k):=fun k h=>hk k fun j o' hj hj'=>absurd hj' (ik h hj);have Ir:∀ (j:Nat) (o':Oper) (k:Nat),l[j]? =some o'→o'.dst=some k→(∃ e∈o.after,e.on=j∧Region.binds .any e=true)→V j (a.eval (.tmp k)):=fun j o' k hj jA hw=>by
   obtain⟨_,q2,q3⟩:=hd j o' k hj jA hw;rw[q2];exact q3
  have dn:∀ {x y:Nat} {ox:Oper},l[x]? =some ox→waits l x y=true→up x=true→up y=true:=fun hx hw hu=>by
   obtain⟨e,he,h4,h5⟩:=bm hw hx;have:=gk _ _ e hx he h5 hu;rwa [h4]at this
  have qG:=dn q5 w5;have KR:=dn q8 w8;have s87:=dn q8 w87;have uO:=dn q13 tE;have s1513:=dn q15 tD;have lr:i<16:=by rw[← hlen];exact(List.getElem?_eq_some_iff.1 ho).1
  have MT:i≠15→up 15=false:=fun hn=>by
   cases e:up 15
   ·rfl
   ·rw[List.all_eq_true]at hclo;have:=hclo i (List.mem_range.2 (by omega));rw[List.contains_iff_mem]at this;rw[im gk fuel [15] (by simpa using e) i this]at hi;cases hi
  by_cases i15:i=15
  ·subst i15;obtain rfl:o=o15:=Option.some.inj (ho.symm.trans q15);obtain⟨u13,e13,_⟩:=hd 13 o13 k13 q13 d13 (by obtain⟨e,he,h4,h5⟩:=bm tD q15;exact⟨e,he,h4,h5⟩);obtain⟨u14,e14,g14⟩:=hd 14 o14 k14 q14 d14 (by obtain⟨e,he,h4,h5⟩:=bm uV q15;exact⟨e,he,h4,h5⟩);obtain⟨W',hr,hK⟩:=h15 a W (hT.bel hi) (by rw[e14];exact g14) (by rw[e13];exact hT.c13 u13 hi);have u8:=uO u13;have u5:=KR u8;refine Or.inr (Or.inl ⟨W',hr,d15, ?_⟩);show TI v t size n5 n8 n13 x5 x8 x13 nw K (up 0) (up 5) (up 7) (up 8) (up 13) true (vals 0) (vals 5) (vals 7) (vals 8) (vals 13) W';rw[e13]at hK;exact⟨fun h=>(by cases h),fun _ h=>(by rw[u5]at h;cases h),fun _ h=>(by rw[u8]at h;cases h),fun _ h=>(by rw[u13]at h;cases h),fun _ h=>(by cases h),fun _ h=>(by rw[u8]at h;cases h),fun _=>hK⟩
  have f15:=MT i15;have hB:=hT.bel f15;have Ih:=fA ho (by omega);by_cases i0:i=0
  ·subst i0;obtain rfl:o=o0:=Option.some.inj (ho.symm.trans q0);have f5:up 5=false:=by cases e:up 5;rfl;rw[qG e]at hi;cases hi
   have f8:up 8=false:=by cases e:up 8;rfl;rw[KR e]at f5;cases f5
   have f13:up 13=false:=by cases e:up 13;rfl;rw[uO e]at f8;cases f8
   refine Or.inl ⟨_,_,h0 a W,Ih,hVT 0 _ (Or.inl rfl), ?_⟩;show TI v t size n5 n8 n13 x5 x8 x13 nw K true (up 5) (up 7) (up 8) (up 13) (up 15) (.slice (some ⟨W.heap.size,0,none⟩) 0 0) (vals 5) (vals 7) (vals 8) (vals 13) (W.alloc (.cells #[] t));refine⟨fun _=>ah hB _,fun _ _=>World.ownsRow_made W #[] 0 hB.size (by decide) (by simp),fun h=> ?_,fun h=> ?_,fun h=> ?_,fun h h'=> ?_,fun h=> ?_⟩
   ·rw[f5]at h;cases h
   ·rw[f8]at h;cases h
   ·rw[f13]at h;cases h
   ·obtain⟨q,e1,e2,_,_⟩:=hT.c7 h h';have hq:=(Array.getElem?_eq_some_iff.1 e2).1;refine⟨q,e1,((ah (Below.refl W.heap.size W) _:Bel W (W.alloc (.cells #[] t))).block q hq).trans e2,fun _ _ e=> ?_,fun h=> ?_⟩
    ·have:W.heap.size=q:=by injection e
     omega
    ·rw[f5]at h;cases h
   ·rw[f15]at h;cases h
  by_cases i7:i=7
  ·subst i7;obtain rfl:o=o7:=Option.some.inj (ho.symm.trans q7);have f8:up 8=false:=by cases e:up 8;rfl;rw[s87 e]at hi;cases hi
   have f13:up 13=false:=by cases e:up 13;rfl;rw[uO e]at f8;cases f8
   have Br:Bel W (W.alloc (.cells nw t)):=ah zR _;refine Or.inl ⟨_,_,h7 a W Ir,Ih,hVT 7 _ (by omega), ?_⟩;show TI v t size n5 n8 n13 x5 x8 x13 nw K (up 0) (up 5) true (up 8) (up 13) (up 15) (vals 0) (vals 5) (.slice (some ⟨W.heap.size,0,none⟩) 1 1) (vals 8) (vals 13) (W.alloc (.cells nw t));refine⟨fun _=>ai hB Br,fun h h'=>dX (hT.c0 h h') Br,fun h h'=>dX (hT.c5 h h') Br,fun h=> ?_,fun h=> ?_,fun _ _=>⟨W.heap.size,rfl,heap_alloc_new W _,fun h h' e=> ?_,fun h e=> ?_⟩,fun h=> ?_⟩
   ·rw[f8]at h;cases h
   ·rw[f13]at h;cases h
   ·have:=(bK (hT.c0 h h') e).2;omega
   ·have:=(bK (hT.c5 h f8) e).2;omega
   ·rw[f15]at h;cases h
  by_cases i5:i=5
  ·subst i5;obtain rfl:o=o5:=Option.some.inj (ho.symm.trans q5);obtain⟨u0,e0,_⟩:=hd 0 o0 k0 q0 d0 (by obtain⟨e,he,h4,h5⟩:=bm w5 q5;exact⟨e,he,h4,h5⟩);have f8:up 8=false:=by cases e:up 8;rfl;rw[KR e]at hi;cases hi
   have f13:up 13=false:=by cases e:up 13;rfl;rw[uO e]at f8;cases f8
   have c0:=hT.c0 u0 hi;obtain⟨u,W',hr,hA⟩:=h5 a W hB Ir (by rw[e0];exact c0);rw[e0]at hA;refine Or.inl ⟨u,W',hr,Ih,hVT 5 _ (by omega), ?_⟩;show TI v t size n5 n8 n13 x5 x8 x13 nw K (up 0) true (up 7) (up 8) (up 13) (up 15) (vals 0) u (vals 7) (vals 8) (vals 13) W';refine⟨fun _=>p4 hB c0 hA,fun _ h=>(by cases h),fun _ _=>hA.1,fun h=> ?_,fun h=> ?_,fun h h'=> ?_,fun h=> ?_⟩
   ·rw[f8]at h;cases h
   ·rw[f13]at h;cases h
   ·obtain⟨q,e1,e2,e3,_⟩:=hT.c7 h h';have n0:=e3 u0 hi;refine⟨q,e1,Ay hA.2.1 e2 n0,fun _ h=>(by cases h),fun _ e=> ?_⟩;rcases hA.2.2 with g|g
    ·exact n0 (g ▸ e)
    ·rw[g]at e;have:=(Array.getElem?_eq_some_iff.1 e2).1;injection e with e;omega
   ·rw[f15]at h;cases h
  by_cases i8:i=8
  ·subst i8;obtain rfl:o=o8:=Option.some.inj (ho.symm.trans q8);obtain⟨u5,e5,_⟩:=hd 5 o5 k5 q5 d5 (by obtain⟨e,he,h4,h5⟩:=bm w8 q8;exact⟨e,he,h4,h5⟩);obtain⟨u7,e7,_⟩:=hd 7 o7 k7 q7 d7 (by obtain⟨e,he,h4,h5⟩:=bm w87 q8;exact⟨e,he,h4,h5⟩);have f13:up 13=false:=by cases e:up 13;rfl;rw[uO e]at hi;cases hi
   have c5:=hT.c5 u5 hi;obtain⟨q,e1,e2,_,_⟩:=hT.c7 u7 hi;obtain⟨u,W',hr,hA⟩:=h8 a W hB (by rw[e5];exact c5) q (by rw[e7];exact e1) e2;rw[e5]at hA;refine Or.inl ⟨u,W',hr,Ih,hVT 8 _ (by omega), ?_⟩;show TI v t size n5 n8 n13 x5 x8 x13 nw K (up 0) (up 5) (up 7) true (up 13) (up 15) (vals 0) (vals 5) (vals 7) u (vals 13) W';refine⟨fun _=>p4 hB c5 hA,fun _ h=>(by rw[u5]at h;cases h),fun _ h=>(by cases h),fun _ _=>hA.1,fun h=> ?_,fun _ h=>(by cases h),fun h=> ?_⟩
   ·rw[f13]at h;cases h
   ·rw[f15]at h;cases h
  by_cases i13:i=13
  ·subst i13;obtain rfl:o=o13:=Option.some.inj (ho.symm.trans q13);obtain⟨u8,e8,_⟩:=hd 8 o8 k8 q8 d8 (by obtain⟨e,he,h4,h5⟩:=bm tE q13;exact⟨e,he,h4,h5⟩);have u5:=KR u8;have c8:=hT.c8 u8 hi;obtain⟨u,W',hr,hA⟩:=h13 a W hB Ir (by rw[e8];exact c8);rw[e8]at hA;refine Or.inl ⟨u,W',hr,Ih,hVT 13 _ (by omega), ?_⟩;show TI v t size n5 n8 n13 x5 x8 x13 nw K (up 0) (up 5) (up 7) (up 8) true (up 15) (vals 0) (vals 5) (vals 7) (vals 8) u W';refine⟨fun _=>p4 hB c8 hA,fun _ h=>(by rw[u5]at h;cases h),fun _ h=>(by rw[u8]at h;cases h),fun _ h=>(by cases h),fun _ _=>hA.1,fun _ h=>(by rw[u8]at h;cases h),fun h=> ?_⟩;rw[f15]at h;cases h
  obtain⟨u,hr,hu⟩:=jc i o ho i0 i5 i7 i8 i13 i15 a W hB vU Ir;refine Or.inl ⟨u,W,hr,Ih,hu, ?_⟩;have e:∀ c,c≠i→((c==i)||up c)=up c:=fun c hc=>by simp[hc]
  have e':∀ c,c≠i→(if c=i then u else vals c)=vals c:=fun c hc=>if_neg hc;show TI v t size n5 n8 n13 x5 x8 x13 nw K ((0==i)||up 0) ((5==i)||up 5) ((7==i)||up 7) ((8==i)||up 8) ((13==i)||up 13) ((15==i)||up 15) (if 0=i then u else vals 0) (if 5=i then u else vals 5) (if 7=i then u else vals 7) (if 8=i then u else vals 8) (if 13=i then u else vals 13) W;rw[e 0 (Ne.symm i0),e 5 (Ne.symm i5),e 7 (Ne.symm i7),e 8 (Ne.symm i8),e 13 (Ne.symm i13),e 15 (Ne.symm i15),e' 0 (Ne.symm i0),e' 5 (Ne.symm i5),e' 7 (Ne.symm i7),e' 8 (Ne.symm i8),e' 13 (Ne.symm i13)];exact hT
 ·intro up vals vs W oD bd hT;refine hend vs W ?_;rw[(bd 13 o13 k13 q13 d13).1];exact hT.c15 (oD 15 (by omega))
end RY
def Lst (v:World) (size:Nat) (s:Value) (m:Nat) (news:List Value):Prop:=
 (s=.slice none 0 0∧m=0∧news=[])∨(∃ ad c,s=.slice (some ad) 0 c∧m=0∧news=[])∨∃ p o c,s=.slice (some ⟨p,o,none⟩) m c∧p<v.heap.size∧v.rangeAt p o news∧news.length=m*size∧∀ u∈news,u.oneCell'=true
theorem gA {P:Program} {v W:World} (t ty e:TypeId) (i:TypeInfo) (z:Value) (size bytes:Nat) (ht:P.underlying t=some (.slice e)) (hi:P.info? e=some i) (hz:i.zero=some z) (hs:i.size=size) (fQ:i.bytes=bytes) (hzs:z.cells.size=size) (s5:0<size)
  {s:Value} {m:Nat} {news:List Value} (h:Lst v size s m news) (hB:Bel v W) {r:Value} {n:Nat} {xs:List Value} (ho:W.ownsRow v.heap.size e size r n xs) (EM:n+m≤maxLen) (hb:(n+m)*bytes≤140737488355328):
  ∃ u W',(Builtin.append_ #[t,t] ty #[r,s]).run P W=.ok u W'∧RY.zh v e size W r u (n+m) (xs++news) W':=by
 rcases h with⟨rfl,rfl,rfl⟩|⟨ad,c,rfl,rfl,rfl⟩|⟨p,o,c,rfl,hp,hr,hl,h1⟩
 ·refine⟨r,W,run_append_owned_none (P:=P) (w:=W) v.heap.size t ty e i size ht hi r n xs ho, ?_,⟨rfl,rfl,rfl,zE,fun _ _ _=>rfl⟩,Or.inl rfl⟩;rw[List.append_nil];exact ho
 ·obtain⟨u,W',hr,h2,h3,_,h5⟩:=run_append_own_at (P:=P) W v.heap.size t ty e i z size bytes ht hi hz hs fQ hzs s5 r n xs ho ad 0 c [] (by simp) (fun j u h=>by simp at h) (fun u h=>by cases h) EM hb hB.size;exact⟨u,W',hr,h2,h3,h5⟩
 ·obtain⟨u,W',hr,h2,h3,_,h5⟩:=run_append_own_at (P:=P) W v.heap.size t ty e i z size bytes ht hi hz hs fQ hzs s5 r n xs ho ⟨p,o,none⟩ m c news hl (fun j u h=>by rw[Addr.add_mid];exact aA hr hp hB j u h) h1 EM hb hB.size;exact⟨u,W',hr,h2,h3,h5⟩
theorem mO {P:Program} {v:World} {t e:TypeId} {i:TypeInfo} {sh:List Sh} {F:List Nat} {n:Nat} {es:List Dt} {lv:Value} (ht:P.underlying t=some (.slice (P.elem t))) (hi:P.info? (P.elem t)=some i) (hs:i.size=sh.length) (h:Rep v false [.row e sh] F [.row n es] [lv]) (k:Nat) (hk:k≤n):
  ∃ s1 s2 vs G,Rep v false (bP n sh) G es vs∧(∀ b∈G,b∈F)∧Lst v sh.length s1 k (vs.take (k*sh.length))∧Lst v sh.length s2 (n - k) (vs.drop (k*sh.length))∧
   (∀ W,(Instr.slice t lv none (some (.int .i64 (k:Int))) none).run P W=.ok s1 W)∧(∀ W,(Instr.slice t lv (some (.int .i64 (k:Int))) none none).run P W=.ok s2 W):=by
 rcases h.slice with⟨_,rfl,rfl,rfl,a,rfl⟩|⟨p,o,c,u,m,G,rfl,rfl,hn,ho,_,_,vs,hr,hR⟩
 ·obtain rfl:k=0:=by omega
  refine⟨.slice a 0 0,.slice a 0 0,[],[],by rw[dj];exact .nil,by simp, ?_, ?_,fun W=> ?_,fun W=> ?_⟩
  ·cases a with
   |none=>exact Or.inl ⟨rfl,rfl,by simp⟩
   |some ad=>exact Or.inr (Or.inl ⟨ad,0,rfl,rfl,by simp⟩)
  ·cases a with
   |none=>exact Or.inl ⟨rfl,rfl,by simp⟩
   |some ad=>exact Or.inr (Or.inl ⟨ad,0,rfl,rfl,by simp⟩)
  ·rw[run_slice_h (P:=P) (w:=W) (t:=t) (a:=a) (len:=0) (cap:=0) ht .i64 ((0:Nat):Int) (by omega) (by omega)];simp[sizeOf,typeInfo,hi,sliced]
  ·rw[run_slice_l (P:=P) (w:=W) (t:=t) (a:=a) (len:=0) (cap:=0) ht .i64 ((0:Nat):Int) (by omega) (by omega)];simp[sizeOf,typeInfo,hi,sliced]
 ·have hl:vs.length=n*sh.length:=by rw[hR.len,bq]
  have qL:k*sh.length≤n*sh.length:=Nat.mul_le_mul_right _ hk;have e1:vs=vs.take (k*sh.length)++vs.drop (k*sh.length):=(List.take_append_drop _ _).symm;have ji:v.rangeAt p o (vs.take (k*sh.length)):=by rw[e1]at hr;exact(dB hr).1
  have kh:v.rangeAt p (o+k*sh.length) (vs.drop (k*sh.length)):=by
   have h2:v.rangeAt p o (vs.take (k*sh.length)++vs.drop (k*sh.length)):=by rw[← e1];exact hr
   have:=(dB h2).2;rwa [List.length_take,Nat.min_eq_left (by omega)]at this
  refine⟨.slice (some ⟨p,o,none⟩) k c,.slice (some (if c=k then ⟨p,o,none⟩ else ⟨p,o+k*sh.length,none⟩)) (n - k) (c - k),vs,G,hR,fun b hb=>by simp[hb],Or.inr (Or.inr ⟨p,o,c,rfl,ho.lt,ji,by rw[List.length_take];omega,fun u hu=>hR.raw.one u (List.mem_of_mem_take hu)⟩), ?_,fun W=> ?_,fun W=> ?_⟩
  ·by_cases Ib:c=k
   ·have H7:n=k:=by omega
    refine Or.inr (Or.inl ⟨⟨p,o,none⟩,c - k,by rw[if_pos Ib];simp[H7],by omega, ?_⟩);rw[List.drop_of_length_le (by rw[hl,H7];exact zE)]
   ·exact Or.inr (Or.inr ⟨p,o+k*sh.length,c - k,by rw[if_neg Ib],ho.lt,kh,by rw[List.length_drop,hl,Nat.sub_mul],fun u hu=>hR.raw.one u (List.mem_of_mem_drop hu)⟩)
  ·rw[run_slice_h (P:=P) (w:=W) (t:=t) (a:=some ⟨p,o,none⟩) (len:=n) (cap:=c) ht .i64 (k:Int) (by omega) (by omega)];simp[sizeOf,typeInfo,hi,sliced,Addr.add_mid]
  ·rw[run_slice_l (P:=P) (w:=W) (t:=t) (a:=some ⟨p,o,none⟩) (len:=n) (cap:=c) ht .i64 (k:Int) (by omega) (by omega)];by_cases Ib:c=k<;>simp[sizeOf,typeInfo,hi,sliced,hs,Ib,Addr.add_mid]
theorem mK {α:Type} {v:World} {sh:List Sh} (f:α→List Dt) (hf:∀ x,(f x).length=sh.length) {l:List α} {k:Nat} (hk:k≤l.length) {G Fx:List Nat} {vs cx:List Value} {x:α} (h:Rep v false (bP l.length sh) G (l.flatMap f) vs) (hx:Rep v false sh Fx (f x) cx):
  ∃ G',Rep v false (bP (l.length+1) sh) G' ((l.take k++x::l.drop k).flatMap f) (vs.take (k*sh.length)++cx++vs.drop (k*sh.length))∧∀ b∈G',b∈G∨b∈Fx:=by
 have e1:bP l.length sh=bP k sh++bP (l.length - k) sh:=by rw[← iT];congr 1;omega
 rw[e1]at h;obtain⟨F1,F2,d1,d2,c1,c2,rfl,hd,rfl,h1,h2⟩:=Rep.cut _ h;have jg:d1.length=k*sh.length:=by rw[h1.raw.typ.len,bq]
 have jU:c1.length=k*sh.length:=by rw[h1.len,bq]
 have ht:((l.take k).flatMap f).length=k*sh.length:=by rw[fO f _ hf,List.length_take,Nat.min_eq_left hk]
 have hs:l.flatMap f=(l.take k).flatMap f++(l.drop k).flatMap f:=by rw[← List.flatMap_append,List.take_append_drop]
 obtain⟨g1,g2⟩:=List.append_inj (hd.symm.trans hs) (by rw[jg,ht]);subst g1;subst g2;refine⟨F1++(Fx++F2), ?_,fun b hb=> ?_⟩
 ·have e2:bP (l.length+1) sh=bP k sh++(sh++bP (l.length - k) sh):=by rw[← cR,← iT];congr 1;omega
  have e3:(c1++c2).take (k*sh.length)=c1:=by rw[← jU];simp
  have e4:(c1++c2).drop (k*sh.length)=c2:=by rw[← jU];simp
  rw[e2,e3,e4,List.flatMap_append,List.flatMap_cons,List.append_assoc];exact h1.app (hx.app h2)
 ·simp only[List.mem_append]at hb ⊢;rcases hb with hb|hb|hb
  ·exact Or.inl (Or.inl hb)
  ·exact Or.inr hb
  ·exact Or.inl (Or.inr hb)
theorem mV {W:World} {lo:Nat} {t:TypeId} {sh:List Sh} {v:Value} {n:Nat} {G:List Nat} {es:List Dt} {xs:List Value} (h:W.ownsRow lo t sh.length v n xs) (hr:Rep W false (bP n sh) G es xs):∃ F,Rep W false [.row t sh] F [.row n es] [v]∧∀ b∈F,lo≤b∨b∈G:=by
 rcases h.2 with⟨rfl,rfl⟩|⟨g,cap,cur,rfl,q2,q3,q4,q5,q6,q7⟩
 ·rw[dj]at hr;cases hr
  exact⟨[],.emp _ _ none rfl .nil,by simp⟩
 ·refine⟨g::(G++[]),.row t sh g 0 n cap t (cap*sh.length) xs es G ⟨cur,q3,q6⟩ (by omega) (by simp) ⟨Nat.le_trans q4 q5,q4⟩ ?_ hr .nil, ?_⟩
  ·intro j x hx;rw[← q7]at hx;have hl:j<n*sh.length:=by have:=(List.getElem?_eq_some_iff.1 hx).1;rw[List.length_take]at this;omega
   rw[List.getElem?_take_of_lt hl]at hx;rw[Nat.zero_add];simp only[World.cell?,q3];simpa using hx
  ·intro b hb;rw[List.append_nil]at hb;rcases List.mem_cons.1 hb with rfl|hb
   ·exact Or.inl q2
   ·exact Or.inr hb
set_option maxHeartbeats 40000000
set_option maxRecDepth 8000
theorem Try.j6:Try.prog.elem 30=53:=by kernel_rfl
theorem Try.dR:Try.prog.underlying 30=some (.slice (Try.prog.elem 30)):=by rw[Try.j6];exact Try.bW
structure Pt (w:World) (b0:Nat) (kd nm:ByteArray) (lv:Value) (xs:List Value) (W:World):Prop where
 bel:Bel w W
 box:aK W b0 32 [.string kd,.string nm,lv]
 arg:aD W (b0+1) xs
 res:aK W (b0+2) 32 [.string {data:=#[]},.string {data:=#[]},.slice none 0 0]
theorem Pt.ae {w W W':World} {b0:Nat} {kd nm:ByteArray} {lv:Value} {xs:List Value} (h:Pt w b0 kd nm lv xs W) (hb:Bel W W'):Pt w b0 kd nm lv xs W':=⟨ai h.bel hb,h.box.ae hb,h.arg.ae hb,h.res.ae hb⟩
structure PtK (w:World) (b0:Nat) (kd nm:ByteArray) (n:Nat) (u:Value) (G:List Nat) (es:List Dt) (xs:List Value) (W:World):Prop where
 form:∃ g cap,u=.slice (some ⟨g,0,none⟩) (n+1) cap
 bel:Bel w W
 box:aK W b0 32 [.string kd,.string nm,u]
 res:aK W (b0+2) 32 [.string {data:=#[]},.string {data:=#[]},.slice none 0 0]
 row:W.ownsRow (b0+3) 53 2 u (n+1) xs
 rep:Rep W false (bP (n+1) au) G es xs
theorem nB {W:World} {lo lo' e size n:Nat} {v:Value} {xs:List Value} (h:W.ownsRow lo e size v n xs) (hl:lo'≤lo):W.ownsRow lo' e size v n xs:=by
 refine⟨h.1,h.2.imp id ?_⟩;rintro⟨g,cap,cur,h1,h2,h3⟩;exact⟨g,cap,cur,h1,Nat.le_trans hl h2,h3⟩
theorem PtK.mk' {w Y:World} {b0 lo n g cap:Nat} {kd nm:ByteArray} {lv:Value} {G:List Nat} {es:List Dt} {xs ys:List Value} (hb:b0=w.heap.size) (h:Pt w b0 kd nm lv ys Y) (eN:b0+3≤lo) (ho:Y.ownsRow lo 53 2 (.slice (some ⟨g,0,none⟩) (n+1) cap) (n+1) xs) (hr:Rep Y false (bP (n+1) au) G es xs) (hG:∀ b∈G,b<b0):
  PtK w b0 kd nm n (.slice (some ⟨g,0,none⟩) (n+1) cap) G es xs (Y.setCell ⟨b0,2,none⟩ (.slice (some ⟨g,0,none⟩) (n+1) cap)):=by
 have hm:Marks (fun b=>b=b0) Y (Y.setCell ⟨b0,2,none⟩ (.slice (some ⟨g,0,none⟩) (n+1) cap)):=Marks.sc (S:=fun b=>b=b0) Y rfl 2 _;exact⟨⟨g,cap,rfl⟩,hm.below (fun b e=>by omega) h.bel,h.box.set 2 _ (by simp),h.res.other (by omega) _ _,dH (nB ho eN) hm fun b hb e=>by omega,hr.aY hm fun b hb e=>by have:=hG b hb;omega⟩
def yX (sh:List Sh) (A:List Dt) (F:Nat→Prop) (W:World) (e:Ending) (w':World):Prop:=∃ c F',e=.returned (.agg c.toArray)∧Rep w' false sh F' A c∧(∀ b∈F',F b∨W.heap.size≤b)∧Bel W w'
theorem PtK.ans {w W we:World} {b0 n g cap:Nat} {kd nm:ByteArray} {G:List Nat} {l:List Pl.Ln} {xs:List Value} {S:Nat→Prop} (h:PtK w b0 kd nm n (.slice (some ⟨g,0,none⟩) (n+1) cap) G (l.flatMap lnD) xs W) (hb:b0=w.heap.size) (hm:Marks (fun b=>b=b0+2) W we) (hG:∀ b∈G,b<b0) (hl:l.length=n+1) (hS:∀ b∈G,S b):
  yX ar (blD ⟨kd,nm,l⟩) S w (.returned (.agg #[.string kd,.string nm,.slice (some ⟨g,0,none⟩) (n+1) cap])) we:=by
 obtain⟨F,r,hF⟩:=mV (sh:=au) (dH h.row hm fun b hb e=>by omega) (h.rep.aY hm fun b hb e=>by have:=hG b hb;omega);refine⟨[.string kd,.string nm,.slice (some ⟨g,0,none⟩) (n+1) cap],F++[],rfl, ?_,fun b hb=> ?_,hm.below (fun b e=>by omega) h.bel⟩
 ·unfold blD aU;rw[hl];exact bB kd nm r
 ·rw[List.append_nil]at hb;rcases hF b hb with q|q
  ·exact Or.inr (by omega)
  ·exact Or.inl (hS b q)
def VIn (lv s1 s2:Value) (k b0:Nat) (X:Array Value):Nat→Value→Prop
 |1,u|9,u|14,u=>u=.pointer (some ⟨b0,2,none⟩)
 |2,u|10,u=>u=lv
 |3,u|11,u=>u=.int .i64 (k:Int)
 |4,u=>u=s1
 |6,u=>u=.agg X
 |12,u=>u=s2
 |_,_=>True
def VPa (va:Option Addr) (vc:Nat) (n:Nat) (k:Nat) (b0:Nat) (jj:Nat) (u:Value) (_:World):Prop:=match jj with
 |0=>u=.int .i64 (k:Int)
 |1=>u=.pointer (some ⟨b0,2,none⟩)
 |2=>u=.slice va n vc
 |3=>u=.int .i64 (n:Int)
 |4|5|15=>u=.bool false
 |6|7|8|9|10|11|12|13|14=>u=undef
 |_=>True
theorem yG (va:Option Addr) (vc:Nat) (n:Nat) (k:Nat) (b0:Nat):∀ jj u W W',Bel W W'→VPa va vc n k b0 jj u W→VPa va vc n k b0 jj u W':=fun _ _ _ _ _ h=>h
def VPb (b:Pl.Bl) (x:Pl.Ln) (y:Pl.Ln) (va:Option Addr) (xa:Option Addr) (ya:Option Addr) (vc:Nat) (xc:Nat) (yc:Nat) (p:Nat) (o:Nat) (n:Nat) (k:Nat) (b0:Nat) (jj:Nat) (u:Value) (_:World):Prop:=match jj with
 |0|10=>u=.int .i64 (k:Int)
 |1|8=>u=.pointer (some ⟨b0,2,none⟩)
 |2|9=>u=.slice va n vc
 |3=>u=.int .i64 (n:Int)
 |4|5|14|15=>u=.bool true
 |6=>u=.pointer (some ⟨b0,0,none⟩)
 |7=>u=.string b.kind
 |11=>u=.pointer (some ⟨p,o+k*2,none⟩)
 |12=>u=.agg #[.string y.key,.slice ya y.ws.length yc]
 |13=>u=.agg #[.string x.key,.slice xa x.ws.length xc]
 |_=>True
theorem yO (b:Pl.Bl) (x:Pl.Ln) (y:Pl.Ln) (va:Option Addr) (xa:Option Addr) (ya:Option Addr) (vc:Nat) (xc:Nat) (yc:Nat) (p:Nat) (o:Nat) (n:Nat) (k:Nat) (b0:Nat):∀ jj u W W',Bel W W'→VPb b x y va xa ya vc xc yc p o n k b0 jj u W→VPb b x y va xa ya vc xc yc p o n k b0 jj u W':=fun _ _ _ _ _ h=>h
def VPc (b:Pl.Bl) (x:Pl.Ln) (y:Pl.Ln) (va:Option Addr) (xa:Option Addr) (ya:Option Addr) (vc:Nat) (xc:Nat) (yc:Nat) (p:Nat) (o:Nat) (n:Nat) (k:Nat) (b0:Nat) (jj:Nat) (u:Value) (_:World):Prop:=match jj with
 |0|10=>u=.int .i64 (k:Int)
 |1|8=>u=.pointer (some ⟨b0,2,none⟩)
 |2|9=>u=.slice va n vc
 |3=>u=.int .i64 (n:Int)
 |4|5=>u=.bool true
 |6=>u=.pointer (some ⟨b0,0,none⟩)
 |7=>u=.string b.kind
 |11=>u=.pointer (some ⟨p,o+k*2,none⟩)
 |12=>u=.agg #[.string y.key,.slice ya y.ws.length yc]
 |13=>u=.agg #[.string x.key,.slice xa x.ws.length xc]
 |14|15=>u=.bool false
 |_=>True
theorem z8 (b:Pl.Bl) (x:Pl.Ln) (y:Pl.Ln) (va:Option Addr) (xa:Option Addr) (ya:Option Addr) (vc:Nat) (xc:Nat) (yc:Nat) (p:Nat) (o:Nat) (n:Nat) (k:Nat) (b0:Nat):∀ jj u W W',Bel W W'→VPc b x y va xa ya vc xc yc p o n k b0 jj u W→VPc b x y va xa ya vc xc yc p o n k b0 jj u W':=fun _ _ _ _ _ h=>h
theorem rB (b:Pl.Bl) (x:Pl.Ln) (lv wv:Value) (F Fx:List Nat) (w:World) (h:Rep w false aJ F [aU b.lines] [lv]) (hx:Rep w false cA Fx [.row x.ws.length (txD x.ws)] [wv]) (hl:b.lines.length≤4194304):
  Calls Try.prog 25 #[.agg #[.string b.kind,.string b.name,lv],.agg #[.string x.key,wv]] w (yX ar (blD ⟨b.kind,b.name,Pl.dD b.kind b.lines x⟩) (fun q=>q∈F∨q∈Fx) w):=by
 obtain⟨i0,eT,ee,gi,jT⟩:=iZ Try.ey;obtain⟨va,vc,ev⟩:=h.raw.aP;obtain⟨xa,xc,ex⟩:=hx.raw.aP;subst ev;subst ex;obtain⟨n,hn⟩:∃ n,n=b.lines.length:=⟨_,rfl⟩
 have HN:=uh hn;have GJ:n≤4194304:=by omega
 obtain⟨b0,bD⟩:∃ b0,b0=w.heap.size:=⟨_,rfl⟩
 have iG:=uh bD;have Hy:Hid (∀ q∈F,q<b0):=fun q hq=>by rw[bD];exact h.lt q hq
 have DR:Hid (∀ q∈Fx++[],q<b0):=fun q hq=>by rw[bD];rw[List.append_nil]at hq;exact hx.lt q hq
 have L7:=uh hx;have Ko:Hid (Rep w false au (Fx++[]) (lnD x) [.string x.key,.slice xa x.ws.length xc]):=cS x.key hx;have HL:=uh h;rw[← hn];rw[← hn]at HL;clear h hx hl hn;obtain⟨wa,aS⟩:∃ wa,wa=((w.alloc (.cells #[.string b.kind,.string b.name,.slice va n vc] 32)).alloc (.cells #[.string x.key,.slice xa x.ws.length xc] 53)).alloc (.cells #[.string {data:=#[]},.string {data:=#[]},.slice none 0 0] 32):=⟨_,rfl⟩
 have H0:Hid (Pt w b0 b.kind b.name (.slice va n vc) [.string x.key,.slice xa x.ws.length xc] wa):=by
  show Pt _ _ _ _ _ _ _;refine⟨?_, ?_, ?_, ?_⟩
  ·rw[aS];exact ah (ah (ah zR _) _) _
  ·rw[aS,bD];exact(aK.new w [.string b.kind,.string b.name,.slice va n vc] 32 _ rfl).ae (ah (ah zR _) _)
  ·rw[aS,bD];exact(aD.new (w.alloc (.cells #[.string b.kind,.string b.name,.slice va n vc] 32)) #[.string x.key,.slice xa x.ws.length xc] 53 _ (by simp)).fI _
  ·rw[aS,bD];exact aK.new ((w.alloc (.cells #[.string b.kind,.string b.name,.slice va n vc] 32)).alloc (.cells #[.string x.key,.slice xa x.ws.length xc] 53)) [.string {data:=#[]},.string {data:=#[]},.slice none 0 0] 32 _ (by simp)
 go_enter Try.func25,Try.ntmps25
 go_upto_region 1 with fail
 rw[← aS,← bD];clear aS bD;go_wp2;go_loopw [5] (fun vi wr=>∃ k:Nat,k≤n∧vi=.int .i64 k∧Pt w b0 b.kind b.name (.slice va n vc) [.string x.key,.slice xa x.ws.length xc] wr∧∀ j,j<k→Pl.aT b.kind (b.lines.getD j Pl.aQ) x=true) (fun vi _=>n - (intOf vi).toNat)
 case atStart=>exact⟨0,zN,rfl,H0.out,fun j hj=>absurd hj (by omega)⟩
 case round=>
  obtain⟨k,hk,rfl,hO,hI⟩:=hrel;have HO:=uh hO;have HI:=uh hI;have IZ:=uh (fun hh=>Pl.rX Pl.aQ (fun y=>Pl.aT b.kind y x) b.lines x k (by have:=HN.out;omega) hI hh);clear hO hI H0;by_cases bN:k<n
  rotate_left
  ·have Eb:¬ ((k:Int)<(n:Int)):=by omega
   have oH:Hid (Pl.dD b.kind b.lines x=b.lines.take k++x::b.lines.drop k):=IZ.out (Or.inl (by have:=HN.out;omega));have lb:Hid ((Pl.dD b.kind b.lines x).length=n+1):=by show _=_;rw[oH.out,List.length_append,List.length_cons,List.length_take,List.length_drop];have:=HN.out;omega
   go_upto_region 2 with fail
   refine RY.aH wr zR (VPa va vc n k b0) (yG _ _ _ _ _) (by kernel_rfl) (by kernel_rfl) (by kernel_rfl) (by kernel_rfl) ?_ ?_
   ·intro i o' ho a X hX hk hd;have z0:=(HO.out.box.ae hX).get 0 _ rfl;have z2:=(HO.out.box.ae hX).get 2 _ rfl;have rx:=(HO.out.arg.ae hX).at_;match i,ho with
    |0,rfl=>
     exact RY.n (RY.p (.int .i64 (k:Int)) (by simp[execOp,go_sem,RY.K hk 5 (.int .i64 (k:Int))]))
    |1,rfl=>
     exact RY.n (RY.p (.pointer (some ⟨b0,2,none⟩)) (by simp[execOp,go_sem,RY.K hk 2 (.pointer (some ⟨b0,0,none⟩))]))
    |2,rfl=>
     exact RY.n (RY.p (.slice va n vc) (by simp[execOp,go_sem,RY.E hd 1 7,z2]))
    |3,rfl=>
     exact RY.n (RY.p (.int .i64 (n:Int)) (by simp[go_sem,RY.E hd 2 8]))
    |4,rfl=>
     exact RY.n (RY.p (.bool false) (by simp[execOp,go_sem,RY.E hd 0 6,RY.E hd 3 9,Eb]))
    |5,rfl=>
     exact RY.n (RY.p (.bool false) (by simp[execOp,go_sem,RY.E hd 4 10]))
    |6,rfl|7,rfl|8,rfl|9,rfl|10,rfl|11,rfl|12,rfl|13,rfl|14,rfl=>
     exact RY.off hd 5 11
    |15,rfl=>
     exact RY.n (RY.p (.bool false) (by simp[execOp,go_sem,RY.E hd 5 11,RY.E hd 14 20]))
    |n+16,ho=>simp at ho
   intro X vs hX bd;have q21:vs 21=_:=bd 15 _ 21 rfl rfl;simp only[RY.aE,Act.put,List.setIfInBounds_toArray,List.set_cons_zero,List.set_cons_succ];rw[q21];generalize vs 6=s6,vs 7=s7,vs 8=s8,vs 9=s9,vs 10=s10,vs 11=s11,vs 12=s12,vs 13=s13,vs 14=s14,vs 15=s15,vs 16=s16,vs 17=s17,vs 18=s18,vs 19=s19,vs 20=s20;clear bd q21;have fC:=uh (HO.out.ae hX);clear hX HO;obtain⟨lv,ti⟩:∃ z,z=Value.slice va n vc:=⟨_,rfl⟩
   have iD:Hid (Rep X false aJ F [aU b.lines] [lv]):=by show Rep _ _ _ _ _ _;rw[ti];exact HL.out.ae fC.out.bel
   rw[← ti]at fC;clear ti;obtain⟨s1,s2,vs,G,hR,pX,jg,my,Bi,tC⟩:=mO (P:=Try.prog) (t:=30) Try.dR (Try.j6 ▸ eT) gi iD.out k (by have:=HN.out;omega);obtain⟨G2,eL,oY⟩:=mK (sh:=au) lnD kT (k:=k) (x:=x) (by have:=HN.out;omega) hR (Ko.out.ae fC.out.bel);have pd:vs.length=n*2:=by rw[hR.len,bq,← HN.out];rfl
   have Hq:k*2≤n*2:=by omega
   rw[← oH.out]at eL;rw[← HN.out]at eL my;have uP:=uh Bi;have qC:=uh tC;have sY:=uh jg;have oi:=uh my;have mh:Hid (∀ b∈G2,b<b0):=fun b hb=>by rcases oY b hb with h|h;exact Hy.out b (pX b h);exact DR.out b h
   have BK:=uh oY;have G8:=uh pX;have eO:=uh eL;clear Bi tC jg my hR pX eL oY iD;go_upto_region 4 with fail
   refine RY.ig X zR 53 2 k (k+1) (n+1) (vs.take (k*2)) (vs.take (k*2)++[.string x.key,.slice xa x.ws.length xc]) (vs.take (k*2)++[.string x.key,.slice xa x.ws.length xc]++vs.drop (k*2)) #[.string x.key,.slice xa x.ws.length xc] (VIn lv s1 s2 k b0 #[.string x.key,.slice xa x.ws.length xc]) (fun u W'=>PtK w b0 b.kind b.name n u G2 ((Pl.dD b.kind b.lines x).flatMap lnD) (vs.take (k*2)++[.string x.key,.slice xa x.ws.length xc]++vs.drop (k*2)) W') 12 24 29 31 32 37 38 (by kernel_rfl) (by kernel_rfl) (by kernel_rfl) (by kernel_rfl) (by kernel_rfl) rfl (by kernel_rfl) _ _ _ _ _ _ _ rfl rfl rfl rfl rfl rfl rfl rfl rfl rfl rfl rfl rfl rfl (by kernel_rfl) (by kernel_rfl) (by kernel_rfl) (by kernel_rfl) (by kernel_rfl) (by kernel_rfl) ?_ ?_ ?_ ?_ ?_ ?_ ?_ ?_ ?_
   ·intro i u h;rcases h with rfl|rfl|rfl|rfl|rfl<;>exact trivial
   ·intro i o' ho n0 n5 n7 n8 n13 n15 a Y hY hk hd;have z2:=(fC.out.box.ae hY).get 2 _ rfl;have rx:=(fC.out.arg.ae hY).at_;match i,ho with
    |0,ho=>exact absurd rfl n0
    |1,rfl|9,rfl|14,rfl=>
     exact⟨.pointer (some ⟨b0,2,none⟩),by simp[execOp,go_sem,RY.K hk 2 (.pointer (some ⟨b0,0,none⟩))],rfl⟩
    |2,rfl=>
     have e25:a.tmps[25]?.getD undef=_:=(RY.af a 25).trans (hd 1 _ 25 rfl rfl ⟨⟨1,.data⟩,by simp,rfl,rfl⟩);exact⟨lv,by simp[execOp,go_sem,e25,z2],rfl⟩
    |3,rfl|11,rfl=>
     exact⟨.int .i64 (k:Int),by simp[execOp,go_sem,RY.K hk 5 (.int .i64 (k:Int))],rfl⟩
    |4,rfl=>
     have f26:a.eval (.tmp 26)=lv:=hd 2 _ 26 rfl rfl ⟨⟨2,.data⟩,by simp,rfl,rfl⟩;have f27:a.eval (.tmp 27)=.int .i64 (k:Int):=hd 3 _ 27 rfl rfl ⟨⟨3,.data⟩,by simp,rfl,rfl⟩;exact⟨s1,by simp[execOp,f26,f27,run_sliceAt_slice (P:=Try.prog) (w:=Y) 30 lv none (some (.int .i64 (k:Int))) none Try.dR,uP.out],rfl⟩
    |5,ho=>exact absurd rfl n5
    |6,rfl=>
     exact⟨.agg #[.string x.key,.slice xa x.ws.length xc],aq 53 _ rfl (b0+1) 0 ((RY.af a 3).symm.trans (RY.K hk 3 (.pointer (some ⟨b0+1,0,none⟩)))) [.string x.key,.slice xa x.ws.length xc] _ rx Try.underlying53 rfl (by kernel_rfl),rfl⟩
    |7,ho=>exact absurd rfl n7
    |8,ho=>exact absurd rfl n8
    |10,rfl=>
     have e33:a.tmps[33]?.getD undef=_:=(RY.af a 33).trans (hd 9 _ 33 rfl rfl ⟨⟨9,.data⟩,by simp,rfl,rfl⟩);exact⟨lv,by simp[execOp,go_sem,e33,z2],rfl⟩
    |12,rfl=>
     have f34:a.eval (.tmp 34)=lv:=hd 10 _ 34 rfl rfl ⟨⟨10,.data⟩,by simp,rfl,rfl⟩;have f35:a.eval (.tmp 35)=.int .i64 (k:Int):=hd 11 _ 35 rfl rfl ⟨⟨11,.data⟩,by simp,rfl,rfl⟩;exact⟨s2,by simp[execOp,f34,f35,run_sliceAt_slice (P:=Try.prog) (w:=Y) 30 lv (some (.int .i64 (k:Int))) none none Try.dR,qC.out],rfl⟩
    |13,ho=>exact absurd rfl n13
    |15,ho=>exact absurd rfl n15
    |n+16,ho=>simp at ho
   ·intro a Y;simp[execOp,go_sem]
   ·intro a Y hd;have e30:a.tmps[30]?.getD undef=_:=(RY.af a 30).trans (hd 6 _ 30 rfl rfl ⟨⟨6,.data⟩,by simp,rfl,rfl⟩);simp[execOp,go_sem,e30]
   ·intro a Y hY hd ho;have e28:=hd 4 _ 28 rfl rfl ⟨⟨4,.data⟩,by simp,rfl,rfl⟩;obtain⟨u,W',hr,hA⟩:=gA 30 30 53 i0 _ 2 40 Try.bW eT ee gi jT rfl (by decide) sY.out hY ho (by unfold maxLen;omega) (by omega);rw[Nat.zero_add,List.nil_append]at hA;exact⟨u,W',bg (.tmp 24) (.tmp 28) 30 rfl rfl e28 hr,hA⟩
   ·intro a Y hY ho q eq hq;obtain⟨u,W',hr,h2,h3,_,h5⟩:=run_append_own_at (P:=Try.prog) Y X.heap.size 30 30 53 i0 _ 2 40 Try.bW eT ee gi jT rfl (by decide) _ k _ ho ⟨q,0,none⟩ 1 1 [.string x.key,.slice xa x.ws.length xc] rfl (fun j y hy=>by rw[Addr.add_mid,Nat.zero_add];simp only[World.cell?,hq];simpa using hy) (by simp[Value.oneCell']) (by unfold maxLen;omega) (by omega) hY.size;exact⟨u,W',bg (.tmp 29) (.tmp 31) 30 rfl rfl eq hr,h2,h3,h5⟩
   ·intro a Y hY hd ho;have e36:=hd 12 _ 36 rfl rfl ⟨⟨12,.data⟩,by simp,rfl,rfl⟩;obtain⟨u,W',hr,hA⟩:=gA 30 30 53 i0 _ 2 40 Try.bW eT ee gi jT rfl (by decide) oi.out hY ho (by unfold maxLen;omega) (by omega);have en:k+1+(n - k)=n+1:=by omega
    rw[en]at hA;exact⟨u,W',bg (.tmp 32) (.tmp 36) 30 rfl rfl e36 hr,hA⟩
   ·intro a Y hY Gb ho;obtain⟨g,cap,eu,_,_⟩:=ho.form (by omega);have t37:=(RY.af a 37).trans eu;have t38:a.tmps[38]?.getD undef=_:=(RY.af a 38).trans Gb;have B1:=fC.out.box.ae hY;have z2:=B1.get 2 _ rfl;have zf:=B1.own.frozen 2;refine⟨Y.setCell ⟨b0,2,none⟩ (.slice (some ⟨g,0,none⟩) (n+1) cap),by simp[execOp,go_sem,t37,t38,z2,zf], ?_⟩;rw[eu]at ho ⊢;exact PtK.mk' iG.out (fC.out.ae hY) (by have:=fC.out.res.own.lt;omega) ho (eO.out.ae hY) mh.out
   ·rintro vals W hK;simp only[RY.aE,Act.put,List.setIfInBounds_toArray,List.set_cons_zero,List.set_cons_succ];generalize vals 24=s24;generalize vals 25=s25;generalize vals 26=s26;generalize vals 27=s27;generalize vals 28=s28;generalize vals 29=s29;generalize vals 30=s30;generalize vals 31=pY;generalize vals 32=o6;generalize vals 33=og;generalize vals 34=oz;generalize vals 35=k6;generalize vals 36=k9;generalize vals 37=lj at hK ⊢;generalize vals 38=lY;obtain⟨g,cap,eu⟩:=hK.form;subst eu;have HK:=uh hK;clear hK fC uP qC sY oi eO;go_upto_region 5 with fail
    have jH:=HK.out.box.at_;have lf:=HK.out.box.own.lt;have uQ:=HK.out.res.own.lt;have bG:W.there (b0+2) 0 (#[.string b.kind,.string b.name,.slice (some ⟨g,0,none⟩) (n+1) cap]:Array Value).size:=aR HK.out.res.own _ _ (by simp);obtain⟨we,bj⟩:∃ we,we=W.setCells (b0+2) 0 [.string b.kind,.string b.name,.slice (some ⟨g,0,none⟩) (n+1) cap]:=⟨_,rfl⟩
    have dv:we.rangeAt (b0+2) 0 [.string b.kind,.string b.name,.slice (some ⟨g,0,none⟩) (n+1) cap]:=by rw[bj];exact World.rangeAt_setCells_same _ _ _ _ bG
    have iB:Hid (Marks (fun b=>b=b0+2) W we):=by show Marks _ _ _;rw[bj];exact aN (S:=fun b=>b=b0+2) rfl _ _ _
    go_wp2_with (first|(refine wpList_load_mid rfl 32 _ rfl b0 0 rfl [.string b.kind,.string b.name,.slice (some ⟨g,0,none⟩) (n+1) cap] _ jH Try.underlying32 rfl (by kernel_rfl) ?_)|(refine wpList_store_mid rfl 32 _ _ rfl (b0+2) 0 #[.string b.kind,.string b.name,.slice (some ⟨g,0,none⟩) (n+1) cap] rfl rfl bG (by kernel_rfl) (by simp[Value.oneCell']) ?_))
    first|rw[← bj]|(simp only[List.toList_toArray];rw[← bj])
    try simp only[Act.put]
    refine bodyPost_ret (v:=.agg #[.string b.kind,.string b.name,.slice (some ⟨g,0,none⟩) (n+1) cap]) (by simp[results,Try.results25,asAddr,run_loadVar_mid (P:=Try.prog) _ _ _ 32 [.string b.kind,.string b.name,.slice (some ⟨g,0,none⟩) (n+1) cap] _ dv Try.underlying32 rfl (by kernel_rfl)]) rfl ?_;exact HK.out.ans iG.out iB.out mh.out lb.out (fun b hb=>by rcases BK.out b hb with h|h;exact Or.inl (G8.out b h);exact Or.inr (by simpa using h))
  have eP:k<b.lines.length:=by have:=HN.out;omega
  rcases cX (HL.out.ae HO.out.bel).raw with⟨e0,_⟩|⟨p,o,c,hv,hp,ec,aZ⟩
  ·omega
  rw[← HN.out]at hv;injection hv with g1 _ g3
  subst g1;subst g3;obtain⟨ya,yc,mj,oX⟩:=aZ k eP;obtain⟨y,hy⟩:∃ y,y=b.lines.getD k Pl.aQ:=⟨_,rfl⟩
  rw[← hy]at mj oX;have HY:=uh hy;have xZ:=uh mj;have iI:=uh hp;have EN:=uh (L7.out.ae HO.out.bel);have xQ:=uh oX;have Eb:(k:Int)<(n:Int):=by omega
  have dd:(0:Int)≤(k:Int):=by omega
  have de:(k:Int)<(n:Int):=by omega
  clear hy mj oX hp aZ ec;cases gj:Pl.aT b.kind y x
  ·have lU:Hid (∀ X,Bel wr X→Calls Try.prog 55 #[.string b.kind,.agg #[.string y.key,.slice ya y.ws.length yc],.agg #[.string x.key,.slice xa x.ws.length xc]] X fun e w'=>e=.returned (.bool false)∧Bel X w'):=fun X hX=>by
    have:=ir b.kind y x ya xa yc xc X (xQ.out.ae hX) (EN.out.ae hX).raw;rwa [gj]at this
   have oH:Hid (Pl.dD b.kind b.lines x=b.lines.take k++x::b.lines.drop k):=IZ.out (Or.inr (by rw[← HY.out];exact gj));have lb:Hid ((Pl.dD b.kind b.lines x).length=n+1):=by show _=_;rw[oH.out,List.length_append,List.length_cons,List.length_take,List.length_drop];have:=HN.out;omega
   go_upto_region 2 with fail
   refine RY.aH wr zR (VPc b x y (some ⟨p,o,none⟩) xa ya vc xc yc p o n k b0) (z8 _ _ _ _ _ _ _ _ _ _ _ _ _ _) (by kernel_rfl) (by kernel_rfl) (by kernel_rfl) (by kernel_rfl) ?_ ?_
   ·intro i o' ho a X hX hk hd;have z0:=(HO.out.box.ae hX).get 0 _ rfl;have z2:=(HO.out.box.ae hX).get 2 _ rfl;have rx:=(HO.out.arg.ae hX).at_;have ry:=aA xZ.out iI.out hX;match i,ho with
    |0,rfl=>
     exact RY.n (RY.p (.int .i64 (k:Int)) (by simp[execOp,go_sem,RY.K hk 5 (.int .i64 (k:Int))]))
    |1,rfl=>
     exact RY.n (RY.p (.pointer (some ⟨b0,2,none⟩)) (by simp[execOp,go_sem,RY.K hk 2 (.pointer (some ⟨b0,0,none⟩))]))
    |2,rfl=>
     exact RY.n (RY.p (.slice (some ⟨p,o,none⟩) n vc) (by simp[execOp,go_sem,RY.E hd 1 7,z2]))
    |3,rfl=>
     exact RY.n (RY.p (.int .i64 (n:Int)) (by simp[go_sem,RY.E hd 2 8]))
    |4,rfl=>
     exact RY.n (RY.p (.bool true) (by simp[execOp,go_sem,RY.E hd 0 6,RY.E hd 3 9,Eb]))
    |5,rfl=>
     exact RY.n (RY.p (.bool true) (by simp[execOp,go_sem,RY.E hd 4 10]))
    |6,rfl=>
     exact RY.on hd 5 11 (RY.p (.pointer (some ⟨b0,0,none⟩)) (by simp[execOp,go_sem,RY.K hk 2 (.pointer (some ⟨b0,0,none⟩))]))
    |7,rfl=>
     exact RY.on hd 5 11 (RY.p (.string b.kind) (by simp[execOp,go_sem,RY.E hd 6 12,z0]))
    |8,rfl=>
     exact RY.on hd 5 11 (RY.p (.pointer (some ⟨b0,2,none⟩)) (by simp[execOp,go_sem,RY.K hk 2 (.pointer (some ⟨b0,0,none⟩))]))
    |9,rfl=>
     exact RY.on hd 5 11 (RY.p (.slice (some ⟨p,o,none⟩) n vc) (by simp[execOp,go_sem,RY.E hd 8 14,z2]))
    |10,rfl=>
     exact RY.on hd 5 11 (RY.p (.int .i64 (k:Int)) (by simp[execOp,go_sem,RY.K hk 5 (.int .i64 (k:Int))]))
    |11,rfl=>
     exact RY.on hd 5 11 (RY.p (.pointer (some ⟨p,o+k*2,none⟩)) (by simp[execOp,go_sem,RY.E hd 9 15,RY.E hd 10 16,dd,de]))
    |12,rfl=>
     have gd:=hd 5 _ 11 rfl rfl ⟨⟨5,.guard⟩,by simp,rfl,rfl⟩;exact Or.inl ⟨(RY.ak rfl rfl rfl gd).trans rfl,Or.inl ⟨.agg #[.string y.key,.slice ya y.ws.length yc],X,aq 53 _ rfl p (o+k*2) ((RY.af a 17).symm.trans (RY.E hd 11 17)) [.string y.key,.slice ya y.ws.length yc] _ ry Try.underlying53 rfl (by kernel_rfl),zR,rfl⟩⟩
    |13,rfl=>
     have gd:=hd 5 _ 11 rfl rfl ⟨⟨5,.guard⟩,by simp,rfl,rfl⟩;exact Or.inl ⟨(RY.ak rfl rfl rfl gd).trans rfl,Or.inl ⟨.agg #[.string x.key,.slice xa x.ws.length xc],X,aq 53 _ rfl (b0+1) 0 ((RY.af a 3).symm.trans (RY.K hk 3 (.pointer (some ⟨b0+1,0,none⟩)))) [.string x.key,.slice xa x.ws.length xc] _ rx Try.underlying53 rfl (by kernel_rfl),zR,rfl⟩⟩
    |14,rfl=>
     have e13:=RY.E hd 7 13;have e18:=RY.E hd 12 18;have e19:=RY.E hd 13 19;refine RY.on hd 5 11 (.inr ⟨55,#[.string b.kind,.agg #[.string y.key,.slice ya y.ws.length yc],.agg #[.string x.key,.slice xa x.ws.length xc]],by simp[go_sem,e13,e18,e19],(lU.out X hX).mono ?_⟩);rintro e W' ⟨rfl,hb⟩;exact⟨_,rfl,hb,rfl⟩
    |15,rfl=>
     exact RY.n (RY.p (.bool false) (by simp[execOp,go_sem,RY.E hd 5 11,RY.E hd 14 20]))
    |n+16,ho=>simp at ho
   intro X vs hX bd;have q21:vs 21=_:=bd 15 _ 21 rfl rfl;simp only[RY.aE,Act.put,List.setIfInBounds_toArray,List.set_cons_zero,List.set_cons_succ];rw[q21];generalize vs 6=s6,vs 7=s7,vs 8=s8,vs 9=s9,vs 10=s10,vs 11=s11,vs 12=s12,vs 13=s13,vs 14=s14,vs 15=s15,vs 16=s16,vs 17=s17,vs 18=s18,vs 19=s19,vs 20=s20;clear bd q21;have fC:=uh (HO.out.ae hX);clear hX HO;obtain⟨lv,ti⟩:∃ z,z=Value.slice (some ⟨p,o,none⟩) n vc:=⟨_,rfl⟩
   have iD:Hid (Rep X false aJ F [aU b.lines] [lv]):=by show Rep _ _ _ _ _ _;rw[ti];exact HL.out.ae fC.out.bel
   rw[← ti]at fC;clear ti;obtain⟨s1,s2,vs,G,hR,pX,jg,my,Bi,tC⟩:=mO (P:=Try.prog) (t:=30) Try.dR (Try.j6 ▸ eT) gi iD.out k (by have:=HN.out;omega);obtain⟨G2,eL,oY⟩:=mK (sh:=au) lnD kT (k:=k) (x:=x) (by have:=HN.out;omega) hR (Ko.out.ae fC.out.bel);have pd:vs.length=n*2:=by rw[hR.len,bq,← HN.out];rfl
   have Hq:k*2≤n*2:=by omega
   rw[← oH.out]at eL;rw[← HN.out]at eL my;have uP:=uh Bi;have qC:=uh tC;have sY:=uh jg;have oi:=uh my;have mh:Hid (∀ b∈G2,b<b0):=fun b hb=>by rcases oY b hb with h|h;exact Hy.out b (pX b h);exact DR.out b h
   have BK:=uh oY;have G8:=uh pX;have eO:=uh eL;clear Bi tC jg my hR pX eL oY iD;go_upto_region 4 with fail
   refine RY.ig X zR 53 2 k (k+1) (n+1) (vs.take (k*2)) (vs.take (k*2)++[.string x.key,.slice xa x.ws.length xc]) (vs.take (k*2)++[.string x.key,.slice xa x.ws.length xc]++vs.drop (k*2)) #[.string x.key,.slice xa x.ws.length xc] (VIn lv s1 s2 k b0 #[.string x.key,.slice xa x.ws.length xc]) (fun u W'=>PtK w b0 b.kind b.name n u G2 ((Pl.dD b.kind b.lines x).flatMap lnD) (vs.take (k*2)++[.string x.key,.slice xa x.ws.length xc]++vs.drop (k*2)) W') 12 24 29 31 32 37 38 (by kernel_rfl) (by kernel_rfl) (by kernel_rfl) (by kernel_rfl) (by kernel_rfl) rfl (by kernel_rfl) _ _ _ _ _ _ _ rfl rfl rfl rfl rfl rfl rfl rfl rfl rfl rfl rfl rfl rfl (by kernel_rfl) (by kernel_rfl) (by kernel_rfl) (by kernel_rfl) (by kernel_rfl) (by kernel_rfl) ?_ ?_ ?_ ?_ ?_ ?_ ?_ ?_ ?_
   ·intro i u h;rcases h with rfl|rfl|rfl|rfl|rfl<;>exact trivial
   ·intro i o' ho n0 n5 n7 n8 n13 n15 a Y hY hk hd;have z2:=(fC.out.box.ae hY).get 2 _ rfl;have rx:=(fC.out.arg.ae hY).at_;match i,ho with
    |0,ho=>exact absurd rfl n0
    |1,rfl|9,rfl|14,rfl=>
     exact⟨.pointer (some ⟨b0,2,none⟩),by simp[execOp,go_sem,RY.K hk 2 (.pointer (some ⟨b0,0,none⟩))],rfl⟩
    |2,rfl=>
     have e25:a.tmps[25]?.getD undef=_:=(RY.af a 25).trans (hd 1 _ 25 rfl rfl ⟨⟨1,.data⟩,by simp,rfl,rfl⟩);exact⟨lv,by simp[execOp,go_sem,e25,z2],rfl⟩
    |3,rfl|11,rfl=>
     exact⟨.int .i64 (k:Int),by simp[execOp,go_sem,RY.K hk 5 (.int .i64 (k:Int))],rfl⟩
    |4,rfl=>
     have f26:a.eval (.tmp 26)=lv:=hd 2 _ 26 rfl rfl ⟨⟨2,.data⟩,by simp,rfl,rfl⟩;have f27:a.eval (.tmp 27)=.int .i64 (k:Int):=hd 3 _ 27 rfl rfl ⟨⟨3,.data⟩,by simp,rfl,rfl⟩;exact⟨s1,by simp[execOp,f26,f27,run_sliceAt_slice (P:=Try.prog) (w:=Y) 30 lv none (some (.int .i64 (k:Int))) none Try.dR,uP.out],rfl⟩
    |5,ho=>exact absurd rfl n5
    |6,rfl=>
     exact⟨.agg #[.string x.key,.slice xa x.ws.length xc],aq 53 _ rfl (b0+1) 0 ((RY.af a 3).symm.trans (RY.K hk 3 (.pointer (some ⟨b0+1,0,none⟩)))) [.string x.key,.slice xa x.ws.length xc] _ rx Try.underlying53 rfl (by kernel_rfl),rfl⟩
    |7,ho=>exact absurd rfl n7
    |8,ho=>exact absurd rfl n8
    |10,rfl=>
     have e33:a.tmps[33]?.getD undef=_:=(RY.af a 33).trans (hd 9 _ 33 rfl rfl ⟨⟨9,.data⟩,by simp,rfl,rfl⟩);exact⟨lv,by simp[execOp,go_sem,e33,z2],rfl⟩
    |12,rfl=>
     have f34:a.eval (.tmp 34)=lv:=hd 10 _ 34 rfl rfl ⟨⟨10,.data⟩,by simp,rfl,rfl⟩;have f35:a.eval (.tmp 35)=.int .i64 (k:Int):=hd 11 _ 35 rfl rfl ⟨⟨11,.data⟩,by simp,rfl,rfl⟩;exact⟨s2,by simp[execOp,f34,f35,run_sliceAt_slice (P:=Try.prog) (w:=Y) 30 lv (some (.int .i64 (k:Int))) none none Try.dR,qC.out],rfl⟩
    |13,ho=>exact absurd rfl n13
    |15,ho=>exact absurd rfl n15
    |n+16,ho=>simp at ho
   ·intro a Y;simp[execOp,go_sem]
   ·intro a Y hd;have e30:a.tmps[30]?.getD undef=_:=(RY.af a 30).trans (hd 6 _ 30 rfl rfl ⟨⟨6,.data⟩,by simp,rfl,rfl⟩);simp[execOp,go_sem,e30]
   ·intro a Y hY hd ho;have e28:=hd 4 _ 28 rfl rfl ⟨⟨4,.data⟩,by simp,rfl,rfl⟩;obtain⟨u,W',hr,hA⟩:=gA 30 30 53 i0 _ 2 40 Try.bW eT ee gi jT rfl (by decide) sY.out hY ho (by unfold maxLen;omega) (by omega);rw[Nat.zero_add,List.nil_append]at hA;exact⟨u,W',bg (.tmp 24) (.tmp 28) 30 rfl rfl e28 hr,hA⟩
   ·intro a Y hY ho q eq hq;obtain⟨u,W',hr,h2,h3,_,h5⟩:=run_append_own_at (P:=Try.prog) Y X.heap.size 30 30 53 i0 _ 2 40 Try.bW eT ee gi jT rfl (by decide) _ k _ ho ⟨q,0,none⟩ 1 1 [.string x.key,.slice xa x.ws.length xc] rfl (fun j y hy=>by rw[Addr.add_mid,Nat.zero_add];simp only[World.cell?,hq];simpa using hy) (by simp[Value.oneCell']) (by unfold maxLen;omega) (by omega) hY.size;exact⟨u,W',bg (.tmp 29) (.tmp 31) 30 rfl rfl eq hr,h2,h3,h5⟩
   ·intro a Y hY hd ho;have e36:=hd 12 _ 36 rfl rfl ⟨⟨12,.data⟩,by simp,rfl,rfl⟩;obtain⟨u,W',hr,hA⟩:=gA 30 30 53 i0 _ 2 40 Try.bW eT ee gi jT rfl (by decide) oi.out hY ho (by unfold maxLen;omega) (by omega);have en:k+1+(n - k)=n+1:=by omega
    rw[en]at hA;exact⟨u,W',bg (.tmp 32) (.tmp 36) 30 rfl rfl e36 hr,hA⟩
   ·intro a Y hY Gb ho;obtain⟨g,cap,eu,_,_⟩:=ho.form (by omega);have t37:=(RY.af a 37).trans eu;have t38:a.tmps[38]?.getD undef=_:=(RY.af a 38).trans Gb;have B1:=fC.out.box.ae hY;have z2:=B1.get 2 _ rfl;have zf:=B1.own.frozen 2;refine⟨Y.setCell ⟨b0,2,none⟩ (.slice (some ⟨g,0,none⟩) (n+1) cap),by simp[execOp,go_sem,t37,t38,z2,zf], ?_⟩;rw[eu]at ho ⊢;exact PtK.mk' iG.out (fC.out.ae hY) (by have:=fC.out.res.own.lt;omega) ho (eO.out.ae hY) mh.out
   ·rintro vals W hK;simp only[RY.aE,Act.put,List.setIfInBounds_toArray,List.set_cons_zero,List.set_cons_succ];generalize vals 24=s24;generalize vals 25=s25;generalize vals 26=s26;generalize vals 27=s27;generalize vals 28=s28;generalize vals 29=s29;generalize vals 30=s30;generalize vals 31=pY;generalize vals 32=o6;generalize vals 33=og;generalize vals 34=oz;generalize vals 35=k6;generalize vals 36=k9;generalize vals 37=lj at hK ⊢;generalize vals 38=lY;obtain⟨g,cap,eu⟩:=hK.form;subst eu;have HK:=uh hK;clear hK fC uP qC sY oi eO;go_upto_region 5 with fail
    have jH:=HK.out.box.at_;have lf:=HK.out.box.own.lt;have uQ:=HK.out.res.own.lt;have bG:W.there (b0+2) 0 (#[.string b.kind,.string b.name,.slice (some ⟨g,0,none⟩) (n+1) cap]:Array Value).size:=aR HK.out.res.own _ _ (by simp);obtain⟨we,bj⟩:∃ we,we=W.setCells (b0+2) 0 [.string b.kind,.string b.name,.slice (some ⟨g,0,none⟩) (n+1) cap]:=⟨_,rfl⟩
    have dv:we.rangeAt (b0+2) 0 [.string b.kind,.string b.name,.slice (some ⟨g,0,none⟩) (n+1) cap]:=by rw[bj];exact World.rangeAt_setCells_same _ _ _ _ bG
    have iB:Hid (Marks (fun b=>b=b0+2) W we):=by show Marks _ _ _;rw[bj];exact aN (S:=fun b=>b=b0+2) rfl _ _ _
    go_wp2_with (first|(refine wpList_load_mid rfl 32 _ rfl b0 0 rfl [.string b.kind,.string b.name,.slice (some ⟨g,0,none⟩) (n+1) cap] _ jH Try.underlying32 rfl (by kernel_rfl) ?_)|(refine wpList_store_mid rfl 32 _ _ rfl (b0+2) 0 #[.string b.kind,.string b.name,.slice (some ⟨g,0,none⟩) (n+1) cap] rfl rfl bG (by kernel_rfl) (by simp[Value.oneCell']) ?_))
    first|rw[← bj]|(simp only[List.toList_toArray];rw[← bj])
    try simp only[Act.put]
    refine bodyPost_ret (v:=.agg #[.string b.kind,.string b.name,.slice (some ⟨g,0,none⟩) (n+1) cap]) (by simp[results,Try.results25,asAddr,run_loadVar_mid (P:=Try.prog) _ _ _ 32 [.string b.kind,.string b.name,.slice (some ⟨g,0,none⟩) (n+1) cap] _ dv Try.underlying32 rfl (by kernel_rfl)]) rfl ?_;exact HK.out.ans iG.out iB.out mh.out lb.out (fun b hb=>by rcases BK.out b hb with h|h;exact Or.inl (G8.out b h);exact Or.inr (by simpa using h))
  ·have lU:Hid (∀ X,Bel wr X→Calls Try.prog 55 #[.string b.kind,.agg #[.string y.key,.slice ya y.ws.length yc],.agg #[.string x.key,.slice xa x.ws.length xc]] X fun e w'=>e=.returned (.bool true)∧Bel X w'):=fun X hX=>by
    have:=ir b.kind y x ya xa yc xc X (xQ.out.ae hX) (EN.out.ae hX).raw;rwa [gj]at this
   have BK:Hid (∀ j,j<k+1→Pl.aT b.kind (b.lines.getD j Pl.aQ) x=true):=fun j hj=>by
    by_cases e:j=k
    ·rw[e,← HY.out];exact gj
    ·exact HI.out j (by omega)
   go_upto_region 2 with fail
   refine RY.aH wr zR (VPb b x y (some ⟨p,o,none⟩) xa ya vc xc yc p o n k b0) (yO _ _ _ _ _ _ _ _ _ _ _ _ _ _) (by kernel_rfl) (by kernel_rfl) (by kernel_rfl) (by kernel_rfl) ?_ ?_
   ·intro i o' ho a X hX hk hd;have z0:=(HO.out.box.ae hX).get 0 _ rfl;have z2:=(HO.out.box.ae hX).get 2 _ rfl;have rx:=(HO.out.arg.ae hX).at_;have ry:=aA xZ.out iI.out hX;match i,ho with
    |0,rfl=>
     exact RY.n (RY.p (.int .i64 (k:Int)) (by simp[execOp,go_sem,RY.K hk 5 (.int .i64 (k:Int))]))
    |1,rfl=>
     exact RY.n (RY.p (.pointer (some ⟨b0,2,none⟩)) (by simp[execOp,go_sem,RY.K hk 2 (.pointer (some ⟨b0,0,none⟩))]))
    |2,rfl=>
     exact RY.n (RY.p (.slice (some ⟨p,o,none⟩) n vc) (by simp[execOp,go_sem,RY.E hd 1 7,z2]))
    |3,rfl=>
     exact RY.n (RY.p (.int .i64 (n:Int)) (by simp[go_sem,RY.E hd 2 8]))
    |4,rfl=>
     exact RY.n (RY.p (.bool true) (by simp[execOp,go_sem,RY.E hd 0 6,RY.E hd 3 9,Eb]))
    |5,rfl=>
     exact RY.n (RY.p (.bool true) (by simp[execOp,go_sem,RY.E hd 4 10]))
    |6,rfl=>
     exact RY.on hd 5 11 (RY.p (.pointer (some ⟨b0,0,none⟩)) (by simp[execOp,go_sem,RY.K hk 2 (.pointer (some ⟨b0,0,none⟩))]))
    |7,rfl=>
     exact RY.on hd 5 11 (RY.p (.string b.kind) (by simp[execOp,go_sem,RY.E hd 6 12,z0]))
    |8,rfl=>
     exact RY.on hd 5 11 (RY.p (.pointer (some ⟨b0,2,none⟩)) (by simp[execOp,go_sem,RY.K hk 2 (.pointer (some ⟨b0,0,none⟩))]))
    |9,rfl=>
     exact RY.on hd 5 11 (RY.p (.slice (some ⟨p,o,none⟩) n vc) (by simp[execOp,go_sem,RY.E hd 8 14,z2]))
    |10,rfl=>
     exact RY.on hd 5 11 (RY.p (.int .i64 (k:Int)) (by simp[execOp,go_sem,RY.K hk 5 (.int .i64 (k:Int))]))
    |11,rfl=>
     exact RY.on hd 5 11 (RY.p (.pointer (some ⟨p,o+k*2,none⟩)) (by simp[execOp,go_sem,RY.E hd 9 15,RY.E hd 10 16,dd,de]))
    |12,rfl=>
     have gd:=hd 5 _ 11 rfl rfl ⟨⟨5,.guard⟩,by simp,rfl,rfl⟩;exact Or.inl ⟨(RY.ak rfl rfl rfl gd).trans rfl,Or.inl ⟨.agg #[.string y.key,.slice ya y.ws.length yc],X,aq 53 _ rfl p (o+k*2) ((RY.af a 17).symm.trans (RY.E hd 11 17)) [.string y.key,.slice ya y.ws.length yc] _ ry Try.underlying53 rfl (by kernel_rfl),zR,rfl⟩⟩
    |13,rfl=>
     have gd:=hd 5 _ 11 rfl rfl ⟨⟨5,.guard⟩,by simp,rfl,rfl⟩;exact Or.inl ⟨(RY.ak rfl rfl rfl gd).trans rfl,Or.inl ⟨.agg #[.string x.key,.slice xa x.ws.length xc],X,aq 53 _ rfl (b0+1) 0 ((RY.af a 3).symm.trans (RY.K hk 3 (.pointer (some ⟨b0+1,0,none⟩)))) [.string x.key,.slice xa x.ws.length xc] _ rx Try.underlying53 rfl (by kernel_rfl),zR,rfl⟩⟩
    |14,rfl=>
     have e13:=RY.E hd 7 13;have e18:=RY.E hd 12 18;have e19:=RY.E hd 13 19;refine RY.on hd 5 11 (.inr ⟨55,#[.string b.kind,.agg #[.string y.key,.slice ya y.ws.length yc],.agg #[.string x.key,.slice xa x.ws.length xc]],by simp[go_sem,e13,e18,e19],(lU.out X hX).mono ?_⟩);rintro e W' ⟨rfl,hb⟩;exact⟨_,rfl,hb,rfl⟩
    |15,rfl=>
     exact RY.n (RY.p (.bool true) (by simp[execOp,go_sem,RY.E hd 5 11,RY.E hd 14 20]))
    |n+16,ho=>simp at ho
   intro X vs hX bd;have q21:vs 21=_:=bd 15 _ 21 rfl rfl;simp only[RY.aE,Act.put,List.setIfInBounds_toArray,List.set_cons_zero,List.set_cons_succ];rw[q21];generalize vs 6=s6,vs 7=s7,vs 8=s8,vs 9=s9,vs 10=s10,vs 11=s11,vs 12=s12,vs 13=s13,vs 14=s14,vs 15=s15,vs 16=s16,vs 17=s17,vs 18=s18,vs 19=s19,vs 20=s20;clear bd q21;have fC:=uh (HO.out.ae hX);clear hX HO;go_wp2;go_roundw
   case rel=>exact⟨k+1,by omega,by go_num,fC.out,BK.out⟩
   case measure=>simp[intOf];omega
namespace RY
theorem lH {P:Program} {id:Nat} {Q:Exit→Act→World→Prop} {a0:Act} {w:World} {l:List Oper} (V:Nat→Value→Prop) (T:(Nat→Bool)→(Nat→Value)→World→Prop) (hm:P.follows .mixedOrders=true)
  (hasc:asc .any l.toArray=true) (hap:cZ l=true) (dc:dr l a0.tmps.size=true) (h0:∀ vals,T (fun _=>false) vals w.drew)
  (jc:∀ (up:Nat→Bool) (vals:Nat→Value) (i:Nat) (o:Oper),l[i]? =some o→up i=false→(∀ (j:Nat) (o':Oper) (e:_),l[j]? =some o'→e∈o'.after→Region.binds .any e=true→up j=true→up e.on=true)→
   ∀ (a:Act) (W:World),(∀ k,cW l k=true→a.eval (.tmp k)=a0.eval (.tmp k))→
   (∀ (j:Nat) (o':Oper) (k:Nat),l[j]? =some o'→o'.dst=some k→(∃ e∈o.after,e.on=j∧Region.binds .any e=true)→up j=true∧a.eval (.tmp k)=vals j∧V j (vals j))→T up vals W→
   (∃ u W',(execOp a.eval o).run P W=.ok (.value u) W'∧o.dst.isSome=true∧V i u∧T (fun j=>(j==i)||up j) (fun j=>if j=i then u else vals j) W')∨
   (∃ W',(execOp a.eval o).run P W=.ok .skip W'∧o.dst=none∧T (fun j=>(j==i)||up j) vals W')∨
   (∃ f args,(execOp a.eval o).run P W=.ok (.enter f args) W∧o.dst.isSome=true∧Calls P f args W fun e W'=>∃ u,e=.returned u∧V i u∧T (fun j=>(j==i)||up j) (fun j=>if j=i then u else vals j) W'))
  (hend:∀ (up:Nat→Bool) (vals vs:Nat→Value) (W:World),(∀ i,i<l.length→up i=true)→(∀ (i:Nat) (o:Oper) (k:Nat),l[i]? =some o→o.dst=some k→vs k=vals i∧V i (vals i))→T up vals W→Q .normal (aE l a0 vs) W):
  (Code.region id l.toArray true).wp P Q a0 w:=by
 refine wp_region_any hm ?_;refine eY (fun L a W=>jF l a0 (fun _ _=>True) (fun j u _=>V j u) L a W∧T (fun j=>L.getD j false) (valOf l a) W) ?_ ?_ _ _ _ _ ?_ (eI.none _ (cD _)) ?_
 ·rintro L a W i ⟨h,hT⟩ hc hi;obtain⟨gf,o,oG,bC⟩:=mem_ready.1 hi;have ho:l[i]? =some o:=by simpa using oG
  have hg:=(bF dc ho).1;rcases jc (fun j=>L.getD j false) (valOf l a) i o ho (jt gf) (fun j o' e hj he hb hu=>hc j o' e (by simpa using hj) he hb hu) a W (fun k hk=>h.aY hk)
   (fun j o' k hj hk ⟨e,he,mF,hb⟩=>by
    have hu:L.getD j false=true:=by rw[← mF];exact bC e he hb
    exact⟨hu,(ck hj hk).symm,by rw[ck hj hk];exact h.new j o' k hj hk hu⟩) hT with⟨u,W',hr,hd,hV,o4⟩|⟨W',hr,hd,o4⟩|⟨f,args,hr,hd,gk⟩
  ·refine eW oG hg hr ⟨h.step hap dc ho gf trivial (fun _ _ x=>x) (fun _=>hV), ?_⟩;obtain⟨q,hq⟩:=Option.isSome_iff_exists.1 hd;rw[fW gf,hq,fb hap ho hq (by rw[h.sz];exact(bF dc ho).2 q hq)];exact o4
  ·refine jw oG hg hr ⟨h.step hap dc ho gf trivial (fun _ _ x=>x) (fun hs=>by rw[hd]at hs;cases hs), ?_⟩;rw[fW gf,hd,ko];exact o4
  ·refine fU oG hg hr (gk.mono ?_);rintro e W' ⟨u,rfl,hV,o4⟩;refine⟨u,rfl,h.step hap dc ho gf trivial (fun _ _ x=>x) (fun _=>hV), ?_⟩;obtain⟨q,hq⟩:=Option.isSome_iff_exists.1 hd;rw[fW gf,hq,fb hap ho hq (by rw[h.sz];exact(bF dc ho).2 q hq)];exact o4
 ·rintro L a W ⟨h,hT⟩ hr;have bC:∀ i,i<l.length→L.getD i false=true:=fun i hi=>lK hr hasc (by simpa using h.len) i (by simpa using hi);have lt:∀ {i:Nat} {o:Oper},l[i]? =some o→i<l.length:=fun hi=>(List.getElem?_eq_some_iff.1 hi).1;have e:a=aE l a0 (fun k=>a.eval (.tmp k)):=by
   have hs:∀ o∈l,∀ q,o.dst=some q→q<a0.tmps.size:=fun o ho q hq=>by
    obtain⟨i,hi⟩:=List.getElem?_of_mem ho;exact(bF dc hi).2 q hq
   refine ju (by rw[da];exact h.df) (by rw[dL];exact h.sz) fun k=> ?_;rw[dp l a0 _ k hs];by_cases hk:∃ o∈l,o.dst=some k
   ·rw[if_pos hk]
   ·rw[if_neg hk];refine h.old k fun i o hi hd=>absurd ⟨o,List.mem_of_getElem? hi,hd⟩ hk
  have:=hend (fun j=>L.getD j false) (valOf l a) (fun k=>a.eval (.tmp k)) W bC (fun i o k hi hd=>⟨(ck hi hd).symm,by rw[ck hi hd];exact h.new i o k hi hd (bC i (lt hi))⟩) hT;rw[← e]at this;exact this
 ·refine⟨⟨by simp,trivial,rfl,rfl,fun _ _=>rfl,fun i o k hi _ hl=> ?_⟩, ?_⟩
  ·rw[cD]at hl;cases hl
  ·have:(fun j=>(Array.replicate l.toArray.size false).getD j false)=fun _=>false:=by funext j;exact cD _ _
   rw[this];exact h0 _
 ·unfold left;exact Nat.le_trans List.countP_le_length (by simp)
end RY
namespace RY
theorem ly {P:Program} {id:Nat} {Q:Exit→Act→World→Prop} {a0:Act} {w:World} {l:List Oper} (v:World) (hv:Bel v w)
  (V:Nat→Value→World→Prop) (hVm:∀ j u W W',Bel W W'→V j u W→V j u W')
  (K:(Nat→Value)→World→Prop) (n fuel:Nat)
  (hm:P.follows .mixedOrders=true) (hasc:asc .any l.toArray=true) (hap:cZ l=true) (dc:dr l a0.tmps.size=true)
  (hlen:l.length=n+1) (D:List Nat) (hD:(D.all fun d=>decide (d<n)&&waits l n d)=true)
  (hclo:((List.range n).all fun i=>(clo l fuel D).contains i)=true)
  (oS:Oper) (hS:l[n]? =some oS) (hSd:oS.dst=none)
  (jO:((l.take n).all fun o=>o.dst.isSome)=true)
  (jc:∀ (i:Nat) (o:Oper),l[i]? =some o→i<n→∀ (a:Act) (W:World),Bel v W→(∀ k,cW l k=true→a.eval (.tmp k)=a0.eval (.tmp k))→
   (∀ (j:Nat) (o':Oper) (k:Nat),l[j]? =some o'→o'.dst=some k→(∃ e∈o.after,e.on=j∧Region.binds .any e=true)→j<n→V j (a.eval (.tmp k)) W)→
   (∃ u W',(execOp a.eval o).run P W=.ok (.value u) W'∧Bel W W'∧V i u W')∨
   (∃ f args,(execOp a.eval o).run P W=.ok (.enter f args) W∧Calls P f args W fun e W'=>∃ u,e=.returned u∧Bel W W'∧V i u W'))
  (lZ:∀ (a:Act) (W:World) (vals:Nat→Value),Bel v W→(∀ k,cW l k=true→a.eval (.tmp k)=a0.eval (.tmp k))→(∀ j,j<n→V j (vals j) W)→
   (∀ (j:Nat) (o':Oper) (k:Nat),l[j]? =some o'→o'.dst=some k→(∃ e∈oS.after,e.on=j∧Region.binds .any e=true)→j<n→a.eval (.tmp k)=vals j)→
   ∃ W',(execOp a.eval oS).run P W=.ok .skip W'∧K vals W')
  (hend:∀ (vals vs:Nat→Value) (W:World),K vals W→(∀ (i:Nat) (o:Oper) (k:Nat),l[i]? =some o→o.dst=some k→vs k=vals i)→Q .normal (aE l a0 vs) W):
  (Code.region id l.toArray true).wp P Q a0 w:=by
 rw[List.all_eq_true]at hD;refine lH (fun _ _=>True) (fun up vals W=>(up n=false→Bel v W∧∀ j,j<n→up j=true→V j (vals j) W)∧(up n=true→K vals W)) hm hasc hap dc ?_ ?_ ?_
 ·intro vals;exact⟨fun _=>⟨Below.drew hv,fun j _ h=>by simp at h⟩,fun h=>by simp at h⟩
 ·intro up vals i o ho hi gk a W hk fB hT;have lr:i<n+1:=by rw[← hlen];exact(List.getElem?_eq_some_iff.1 ho).1
  have te:(∀ d∈D,up d=true)→∀ j,j<n→up j=true:=fun h j hj=>by
   rw[List.all_eq_true]at hclo;have:=hclo j (by simp;omega);exact im gk fuel D h j (by simpa using this)
  by_cases oV:up n=true
  ·exfalso;have bC:∀ j,j<n+1→up j=true:=fun j hj=>by
    by_cases e:j=n
    ·rw[e];exact oV
    ·exact te (fun d hd=>by
      have h2:=hD d hd;rw[Bool.and_eq_true,decide_eq_true_eq]at h2;obtain⟨e,he,mF,uG⟩:=bm h2.2 hS;rw[← mF];exact gk n oS e hS he uG oV) j (by omega)
   rw[bC i lr]at hi;cases hi
  ·have oV:up n=false:=by simpa using oV
   obtain⟨Dh,hV⟩:=hT.1 oV;have fA:i<n→o.dst.isSome=true:=fun h=>by
    rw[List.all_eq_true]at jO;exact jO _ (List.mem_of_getElem? (i:=i) (by rw[List.getElem?_take_of_lt h];exact ho))
   by_cases gN:i<n
   ·have key:∀ u W',Bel W W'→V i u W'→((fun j=>(j==i)||up j) n=false→Bel v W'∧∀ j,j<n→(fun j=>(j==i)||up j) j=true→V j ((fun j=>if j=i then u else vals j) j) W')∧((fun j=>(j==i)||up j) n=true→K (fun j=>if j=i then u else vals j) W'):=fun u W' hW oe=>by
     refine⟨fun _=>⟨ai Dh hW,fun j hj hu=> ?_⟩,fun h=> ?_⟩
     ·by_cases e:j=i
      ·simp only[e,if_true];exact oe
      ·have hu:up j=true:=by simpa [e]using hu
       simp only[e,if_false];exact hVm _ _ _ _ hW (hV j hj hu)
     ·have:¬ n=i:=by omega
      have:up n=true:=by simpa [this]using h
      rw[oV]at this;cases this
    rcases jc i o ho gN a W Dh hk (fun j o' k hj jA hd mR=>by
      obtain⟨q1,q2,_⟩:=fB j o' k hj jA hd;rw[q2];exact hV j mR q1) with⟨u,W',hr,hW,oe⟩|⟨f,args,hr,hc⟩
    ·exact Or.inl ⟨u,W',hr,fA gN,trivial,key u W' hW oe⟩
    ·refine Or.inr (Or.inr ⟨f,args,hr,fA gN,hc.mono ?_⟩);rintro e W' ⟨u,rfl,hW,oe⟩;exact⟨u,rfl,trivial,key u W' hW oe⟩
   ·obtain rfl:i=n:=by omega
    rw[hS]at ho;injection ho with ho
    subst ho;have eS:∀ j,j<i→up j=true:=te fun d hd=>by
     have h2:=hD d hd;rw[Bool.and_eq_true,decide_eq_true_eq]at h2;obtain⟨e,he,mF,uG⟩:=bm h2.2 hS;have xJ:d<l.length:=by rw[hlen];omega
     have hq:(l[d]).dst.isSome=true:=by
      rw[List.all_eq_true]at jO;exact jO _ (List.mem_of_getElem? (i:=d) (by rw[List.getElem?_take_of_lt h2.1];simp))
     obtain⟨k,jA⟩:=Option.isSome_iff_exists.1 hq;exact(fB d l[d] k (by simp) jA ⟨e,he,mF,uG⟩).1
    obtain⟨W',hr,hK⟩:=lZ a W vals Dh hk (fun j hj=>hV j hj (eS j hj)) (fun j o' k hj jA hd mR=>(fB j o' k hj jA hd).2.1);exact Or.inr (Or.inl ⟨W',hr,hSd,fun h=>by simp at h,fun _=>hK⟩)
 ·intro up vals vs W bC fK hT;exact hend vals vs W (hT.2 (bC n (by omega))) (fun i o k hi hd=>(fK i o k hi hd).1)
end RY
theorem Try.iX:Try.prog.elem 23=32:=by kernel_rfl
theorem Try.dy:Try.prog.underlying 23=some (.slice (Try.prog.elem 23)):=by rw[Try.iX];exact Try.bY
structure Qt (w:World) (b0:Nat) (lv:Value) (xs:List Value) (W:World):Prop where
 bel:Bel w W
 box:aK W b0 25 [lv]
 arg:aD W (b0+1) xs
 res:aK W (b0+2) 25 [.slice none 0 0]
theorem Qt.ae {w W W':World} {b0:Nat} {lv:Value} {xs:List Value} (h:Qt w b0 lv xs W) (hb:Bel W W'):Qt w b0 lv xs W':=⟨ai h.bel hb,h.box.ae hb,h.arg.ae hb,h.res.ae hb⟩
structure QtK (w:World) (b0:Nat) (n:Nat) (u:Value) (G:List Nat) (es:List Dt) (xs:List Value) (W:World):Prop where
 form:∃ g cap,u=.slice (some ⟨g,0,none⟩) (n+1) cap
 bel:Bel w W
 box:aK W b0 25 [u]
 res:aK W (b0+2) 25 [.slice none 0 0]
 row:W.ownsRow (b0+3) 32 3 u (n+1) xs
 rep:Rep W false (bP (n+1) ar) G es xs
theorem QtK.mk' {w Y:World} {b0 lo n g cap:Nat} {lv:Value} {G:List Nat} {es:List Dt} {xs ys:List Value} (hb:b0=w.heap.size) (h:Qt w b0 lv ys Y) (eN:b0+3≤lo) (ho:Y.ownsRow lo 32 3 (.slice (some ⟨g,0,none⟩) (n+1) cap) (n+1) xs) (hr:Rep Y false (bP (n+1) ar) G es xs) (hG:∀ b∈G,b<b0):
  QtK w b0 n (.slice (some ⟨g,0,none⟩) (n+1) cap) G es xs (Y.setCell ⟨b0,0,none⟩ (.slice (some ⟨g,0,none⟩) (n+1) cap)):=by
 have hm:Marks (fun b=>b=b0) Y (Y.setCell ⟨b0,0,none⟩ (.slice (some ⟨g,0,none⟩) (n+1) cap)):=Marks.sc (S:=fun b=>b=b0) Y rfl 0 _;exact⟨⟨g,cap,rfl⟩,hm.below (fun b e=>by omega) h.bel,h.box.set 0 _ (by simp),h.res.other (by omega) _ _,dH (nB ho eN) hm fun b hb e=>by omega,hr.aY hm fun b hb e=>by have:=hG b hb;omega⟩
theorem QtK.ans {w W we:World} {b0 n g cap:Nat} {G:List Nat} {l:List Pl.Bl} {xs:List Value} {S:Nat→Prop} (h:QtK w b0 n (.slice (some ⟨g,0,none⟩) (n+1) cap) G (l.flatMap blD) xs W) (hb:b0=w.heap.size) (hm:Marks (fun b=>b=b0+2) W we) (hG:∀ b∈G,b<b0) (hl:l.length=n+1) (hS:∀ b∈G,S b):
  yX bX [aW l] S w (.returned (.agg #[.slice (some ⟨g,0,none⟩) (n+1) cap])) we:=by
 obtain⟨F,r,hF⟩:=mV (sh:=ar) (dH h.row hm fun b hb e=>by omega) (h.rep.aY hm fun b hb e=>by have:=hG b hb;omega);refine⟨[.slice (some ⟨g,0,none⟩) (n+1) cap],F++[],rfl, ?_,fun b hb=> ?_,hm.below (fun b e=>by omega) h.bel⟩
 ·unfold aW;rw[hl];exact ma r
 ·rw[List.append_nil]at hb;rcases hF b hb with q|q
  ·exact Or.inr (by omega)
  ·exact Or.inl (hS b q)
def VIb (lv s1 s2:Value) (k b0:Nat) (X:Array Value):Nat→Value→Prop
 |1,u|9,u|14,u=>u=.pointer (some ⟨b0,0,none⟩)
 |2,u|10,u=>u=lv
 |3,u|11,u=>u=.int .i64 (k:Int)
 |4,u=>u=s1
 |6,u=>u=.agg X
 |12,u=>u=s2
 |_,_=>True
def VQa (va:Option Addr) (vc:Nat) (n:Nat) (k:Nat) (b0:Nat) (jj:Nat) (u:Value) (_:World):Prop:=match jj with
 |0=>u=.int .i64 (k:Int)
 |1=>u=.pointer (some ⟨b0,0,none⟩)
 |2=>u=.slice va n vc
 |3=>u=.int .i64 (n:Int)
 |4|5|13=>u=.bool false
 |6|7|8|9|10|11|12=>u=undef
 |_=>True
theorem yP (va:Option Addr) (vc:Nat) (n:Nat) (k:Nat) (b0:Nat):∀ jj u W W',Bel W W'→VQa va vc n k b0 jj u W→VQa va vc n k b0 jj u W':=fun _ _ _ _ _ h=>h
def VQb (x:Pl.Bl) (y:Pl.Bl) (va:Option Addr) (xa:Option Addr) (ya:Option Addr) (vc:Nat) (xc:Nat) (yc:Nat) (p:Nat) (o:Nat) (n:Nat) (k:Nat) (b0:Nat) (jj:Nat) (u:Value) (_:World):Prop:=match jj with
 |0|8=>u=.int .i64 (k:Int)
 |1|6=>u=.pointer (some ⟨b0,0,none⟩)
 |2|7=>u=.slice va n vc
 |3=>u=.int .i64 (n:Int)
 |4|5|12|13=>u=.bool true
 |9=>u=.pointer (some ⟨p,o+k*3,none⟩)
 |10=>u=.agg #[.string y.kind,.string y.name,.slice ya y.lines.length yc]
 |11=>u=.agg #[.string x.kind,.string x.name,.slice xa x.lines.length xc]
 |_=>True
theorem AQ (x:Pl.Bl) (y:Pl.Bl) (va:Option Addr) (xa:Option Addr) (ya:Option Addr) (vc:Nat) (xc:Nat) (yc:Nat) (p:Nat) (o:Nat) (n:Nat) (k:Nat) (b0:Nat):∀ jj u W W',Bel W W'→VQb x y va xa ya vc xc yc p o n k b0 jj u W→VQb x y va xa ya vc xc yc p o n k b0 jj u W':=fun _ _ _ _ _ h=>h
def VQc (x:Pl.Bl) (y:Pl.Bl) (va:Option Addr) (xa:Option Addr) (ya:Option Addr) (vc:Nat) (xc:Nat) (yc:Nat) (p:Nat) (o:Nat) (n:Nat) (k:Nat) (b0:Nat) (jj:Nat) (u:Value) (_:World):Prop:=match jj with
 |0|8=>u=.int .i64 (k:Int)
 |1|6=>u=.pointer (some ⟨b0,0,none⟩)
 |2|7=>u=.slice va n vc
 |3=>u=.int .i64 (n:Int)
 |4|5=>u=.bool true
 |9=>u=.pointer (some ⟨p,o+k*3,none⟩)
 |10=>u=.agg #[.string y.kind,.string y.name,.slice ya y.lines.length yc]
 |11=>u=.agg #[.string x.kind,.string x.name,.slice xa x.lines.length xc]
 |12|13=>u=.bool false
 |_=>True
theorem y4 (x:Pl.Bl) (y:Pl.Bl) (va:Option Addr) (xa:Option Addr) (ya:Option Addr) (vc:Nat) (xc:Nat) (yc:Nat) (p:Nat) (o:Nat) (n:Nat) (k:Nat) (b0:Nat):∀ jj u W W',Bel W W'→VQc x y va xa ya vc xc yc p o n k b0 jj u W→VQc x y va xa ya vc xc yc p o n k b0 jj u W':=fun _ _ _ _ _ h=>h
theorem qa (s:List Pl.Bl) (x:Pl.Bl) (lv wv:Value) (F Fx:List Nat) (w:World) (h:Rep w false aV F [aW s] [lv]) (hx:Rep w false aJ Fx [aU x.lines] [wv]) (hl:s.length≤4194304):
  Calls Try.prog 70 #[.agg #[lv],.agg #[.string x.kind,.string x.name,wv]] w (yX bX [aW (Pl.fs s x)] (fun q=>q∈F∨q∈Fx) w):=by
 obtain⟨i0,eT,ee,gi,jT⟩:=iZ Try.ff;obtain⟨va,vc,ev⟩:=h.raw.aP;obtain⟨xa,xc,ex⟩:=hx.raw.aP;subst ev;subst ex;obtain⟨n,hn⟩:∃ n,n=s.length:=⟨_,rfl⟩
 have HN:=uh hn;have GJ:n≤4194304:=by omega
 obtain⟨b0,bD⟩:∃ b0,b0=w.heap.size:=⟨_,rfl⟩
 have iG:=uh bD;have Hy:Hid (∀ q∈F,q<b0):=fun q hq=>by rw[bD];exact h.lt q hq
 have DR:Hid (∀ q∈Fx++[],q<b0):=fun q hq=>by rw[bD];rw[List.append_nil]at hq;exact hx.lt q hq
 have L7:=uh hx;have Ko:Hid (Rep w false ar (Fx++[]) (blD x) [.string x.kind,.string x.name,.slice xa x.lines.length xc]):=bB x.kind x.name hx;have HL:=uh h;rw[← hn];rw[← hn]at HL;clear h hx hl hn;obtain⟨wa,aS⟩:∃ wa,wa=((w.alloc (.cells #[.slice va n vc] 25)).alloc (.cells #[.string x.kind,.string x.name,.slice xa x.lines.length xc] 32)).alloc (.cells #[.slice none 0 0] 25):=⟨_,rfl⟩
 have H0:Hid (Qt w b0 (.slice va n vc) [.string x.kind,.string x.name,.slice xa x.lines.length xc] wa):=by
  show Qt _ _ _ _ _;refine⟨?_, ?_, ?_, ?_⟩
  ·rw[aS];exact ah (ah (ah zR _) _) _
  ·rw[aS,bD];exact(aK.new w [.slice va n vc] 25 _ rfl).ae (ah (ah zR _) _)
  ·rw[aS,bD];exact(aD.new (w.alloc (.cells #[.slice va n vc] 25)) #[.string x.kind,.string x.name,.slice xa x.lines.length xc] 32 _ (by simp)).fI _
  ·rw[aS,bD];exact aK.new ((w.alloc (.cells #[.slice va n vc] 25)).alloc (.cells #[.string x.kind,.string x.name,.slice xa x.lines.length xc] 32)) [.slice none 0 0] 25 _ (by simp)
 go_enter Try.func70,Try.ntmps70
 go_upto_region 1 with fail
 rw[← aS,← bD];clear aS bD;go_wp2;go_loopw [5] (fun vi wr=>∃ k:Nat,k≤n∧vi=.int .i64 k∧Qt w b0 (.slice va n vc) [.string x.kind,.string x.name,.slice xa x.lines.length xc] wr∧∀ j,j<k→Pl.ahead (s.getD j Pl.aG) x=true) (fun vi _=>n - (intOf vi).toNat)
 case atStart=>exact⟨0,zN,rfl,H0.out,fun j hj=>absurd hj (by omega)⟩
 case round=>
  obtain⟨k,hk,rfl,hO,hI⟩:=hrel;have HO:=uh hO;have HI:=uh hI;have IZ:=uh (fun hh=>Pl.rX Pl.aG (fun y=>Pl.ahead y x) s x k (by have:=HN.out;omega) hI hh);clear hO hI H0;by_cases bN:k<n
  rotate_left
  ·have Eb:¬ ((k:Int)<(n:Int)):=by omega
   have oH:Hid (Pl.fs s x=s.take k++x::s.drop k):=IZ.out (Or.inl (by have:=HN.out;omega));have lb:Hid ((Pl.fs s x).length=n+1):=by show _=_;rw[oH.out,List.length_append,List.length_cons,List.length_take,List.length_drop];have:=HN.out;omega
   go_upto_region 2 with fail
   refine RY.aH wr zR (VQa va vc n k b0) (yP _ _ _ _ _) (by kernel_rfl) (by kernel_rfl) (by kernel_rfl) (by kernel_rfl) ?_ ?_
   ·intro i o' ho a X hX hk hd;have z2:=(HO.out.box.ae hX).get 0 _ rfl;have rx:=(HO.out.arg.ae hX).at_;match i,ho with
    |0,rfl=>
     exact RY.n (RY.p (.int .i64 (k:Int)) (by simp[execOp,go_sem,RY.K hk 5 (.int .i64 (k:Int))]))
    |1,rfl=>
     exact RY.n (RY.p (.pointer (some ⟨b0,0,none⟩)) (by simp[execOp,go_sem,RY.K hk 2 (.pointer (some ⟨b0,0,none⟩))]))
    |2,rfl=>
     exact RY.n (RY.p (.slice va n vc) (by simp[execOp,go_sem,RY.E hd 1 7,z2]))
    |3,rfl=>
     exact RY.n (RY.p (.int .i64 (n:Int)) (by simp[go_sem,RY.E hd 2 8]))
    |4,rfl=>
     exact RY.n (RY.p (.bool false) (by simp[execOp,go_sem,RY.E hd 0 6,RY.E hd 3 9,Eb]))
    |5,rfl=>
     exact RY.n (RY.p (.bool false) (by simp[execOp,go_sem,RY.E hd 4 10]))
    |6,rfl|7,rfl|8,rfl|9,rfl|10,rfl|11,rfl|12,rfl=>
     exact RY.off hd 5 11
    |13,rfl=>
     exact RY.n (RY.p (.bool false) (by simp[execOp,go_sem,RY.E hd 5 11,RY.E hd 12 18]))
    |n+14,ho=>simp at ho
   intro X vs hX bd;have q19:vs 19=_:=bd 13 _ 19 rfl rfl;simp only[RY.aE,Act.put,List.setIfInBounds_toArray,List.set_cons_zero,List.set_cons_succ];rw[q19];generalize vs 6=s6,vs 7=s7,vs 8=s8,vs 9=s9,vs 10=s10,vs 11=s11,vs 12=s12,vs 13=s13,vs 14=s14,vs 15=s15,vs 16=s16,vs 17=s17,vs 18=s18;clear bd q19;have fC:=uh (HO.out.ae hX);clear hX HO;obtain⟨lv,ti⟩:∃ z,z=Value.slice va n vc:=⟨_,rfl⟩
   have iD:Hid (Rep X false aV F [aW s] [lv]):=by show Rep _ _ _ _ _ _;rw[ti];exact HL.out.ae fC.out.bel
   rw[← ti]at fC;clear ti;obtain⟨s1,s2,vs,G,hR,pX,jg,my,Bi,tC⟩:=mO (P:=Try.prog) (t:=23) Try.dy (Try.iX ▸ eT) gi iD.out k (by have:=HN.out;omega);obtain⟨G2,eL,oY⟩:=mK (sh:=ar) blD iy (k:=k) (x:=x) (by have:=HN.out;omega) hR (Ko.out.ae fC.out.bel);have pd:vs.length=n*3:=by rw[hR.len,bq,← HN.out];rfl
   have Hq:k*3≤n*3:=by omega
   rw[← oH.out]at eL;rw[← HN.out]at eL my;have uP:=uh Bi;have qC:=uh tC;have sY:=uh jg;have oi:=uh my;have mh:Hid (∀ b∈G2,b<b0):=fun b hb=>by rcases oY b hb with h|h;exact Hy.out b (pX b h);exact DR.out b h
   have BK:=uh oY;have G8:=uh pX;have eO:=uh eL;clear Bi tC jg my hR pX eL oY iD;go_upto_region 4 with fail
   refine RY.ig X zR 32 3 k (k+1) (n+1) (vs.take (k*3)) (vs.take (k*3)++[.string x.kind,.string x.name,.slice xa x.lines.length xc]) (vs.take (k*3)++[.string x.kind,.string x.name,.slice xa x.lines.length xc]++vs.drop (k*3)) #[.string x.kind,.string x.name,.slice xa x.lines.length xc] (VIb lv s1 s2 k b0 #[.string x.kind,.string x.name,.slice xa x.lines.length xc]) (fun u W'=>QtK w b0 n u G2 ((Pl.fs s x).flatMap blD) (vs.take (k*3)++[.string x.kind,.string x.name,.slice xa x.lines.length xc]++vs.drop (k*3)) W') 12 22 27 29 30 35 36 (by kernel_rfl) (by kernel_rfl) (by kernel_rfl) (by kernel_rfl) (by kernel_rfl) rfl (by kernel_rfl) _ _ _ _ _ _ _ rfl rfl rfl rfl rfl rfl rfl rfl rfl rfl rfl rfl rfl rfl (by kernel_rfl) (by kernel_rfl) (by kernel_rfl) (by kernel_rfl) (by kernel_rfl) (by kernel_rfl) ?_ ?_ ?_ ?_ ?_ ?_ ?_ ?_ ?_
   ·intro i u h;rcases h with rfl|rfl|rfl|rfl|rfl<;>exact trivial
   ·intro i o' ho n0 n5 n7 n8 n13 n15 a Y hY hk hd;have z2:=(fC.out.box.ae hY).get 0 _ rfl;have rx:=(fC.out.arg.ae hY).at_;match i,ho with
    |0,ho=>exact absurd rfl n0
    |1,rfl|9,rfl|14,rfl=>
     exact⟨.pointer (some ⟨b0,0,none⟩),by simp[execOp,go_sem,RY.K hk 2 (.pointer (some ⟨b0,0,none⟩))],rfl⟩
    |2,rfl=>
     have e23:a.tmps[23]?.getD undef=_:=(RY.af a 23).trans (hd 1 _ 23 rfl rfl ⟨⟨1,.data⟩,by simp,rfl,rfl⟩);exact⟨lv,by simp[execOp,go_sem,e23,z2],rfl⟩
    |3,rfl|11,rfl=>
     exact⟨.int .i64 (k:Int),by simp[execOp,go_sem,RY.K hk 5 (.int .i64 (k:Int))],rfl⟩
    |4,rfl=>
     have f24:a.eval (.tmp 24)=lv:=hd 2 _ 24 rfl rfl ⟨⟨2,.data⟩,by simp,rfl,rfl⟩;have f25:a.eval (.tmp 25)=.int .i64 (k:Int):=hd 3 _ 25 rfl rfl ⟨⟨3,.data⟩,by simp,rfl,rfl⟩;exact⟨s1,by simp[execOp,f24,f25,run_sliceAt_slice (P:=Try.prog) (w:=Y) 23 lv none (some (.int .i64 (k:Int))) none Try.dy,uP.out],rfl⟩
    |5,ho=>exact absurd rfl n5
    |6,rfl=>
     exact⟨.agg #[.string x.kind,.string x.name,.slice xa x.lines.length xc],aq 32 _ rfl (b0+1) 0 ((RY.af a 3).symm.trans (RY.K hk 3 (.pointer (some ⟨b0+1,0,none⟩)))) [.string x.kind,.string x.name,.slice xa x.lines.length xc] _ rx Try.underlying32 rfl (by kernel_rfl),rfl⟩
    |7,ho=>exact absurd rfl n7
    |8,ho=>exact absurd rfl n8
    |10,rfl=>
     have e31:a.tmps[31]?.getD undef=_:=(RY.af a 31).trans (hd 9 _ 31 rfl rfl ⟨⟨9,.data⟩,by simp,rfl,rfl⟩);exact⟨lv,by simp[execOp,go_sem,e31,z2],rfl⟩
    |12,rfl=>
     have f32:a.eval (.tmp 32)=lv:=hd 10 _ 32 rfl rfl ⟨⟨10,.data⟩,by simp,rfl,rfl⟩;have f33:a.eval (.tmp 33)=.int .i64 (k:Int):=hd 11 _ 33 rfl rfl ⟨⟨11,.data⟩,by simp,rfl,rfl⟩;exact⟨s2,by simp[execOp,f32,f33,run_sliceAt_slice (P:=Try.prog) (w:=Y) 23 lv (some (.int .i64 (k:Int))) none none Try.dy,qC.out],rfl⟩
    |13,ho=>exact absurd rfl n13
    |15,ho=>exact absurd rfl n15
    |n+16,ho=>simp at ho
   ·intro a Y;simp[execOp,go_sem]
   ·intro a Y hd;have e28:a.tmps[28]?.getD undef=_:=(RY.af a 28).trans (hd 6 _ 28 rfl rfl ⟨⟨6,.data⟩,by simp,rfl,rfl⟩);simp[execOp,go_sem,e28]
   ·intro a Y hY hd ho;have e26:=hd 4 _ 26 rfl rfl ⟨⟨4,.data⟩,by simp,rfl,rfl⟩;obtain⟨u,W',hr,hA⟩:=gA 23 23 32 i0 _ 3 56 Try.bY eT ee gi jT rfl (by decide) sY.out hY ho (by unfold maxLen;omega) (by omega);rw[Nat.zero_add,List.nil_append]at hA;exact⟨u,W',bg (.tmp 22) (.tmp 26) 23 rfl rfl e26 hr,hA⟩
   ·intro a Y hY ho q eq hq;obtain⟨u,W',hr,h2,h3,_,h5⟩:=run_append_own_at (P:=Try.prog) Y X.heap.size 23 23 32 i0 _ 3 56 Try.bY eT ee gi jT rfl (by decide) _ k _ ho ⟨q,0,none⟩ 1 1 [.string x.kind,.string x.name,.slice xa x.lines.length xc] rfl (fun j y hy=>by rw[Addr.add_mid,Nat.zero_add];simp only[World.cell?,hq];simpa using hy) (by simp[Value.oneCell']) (by unfold maxLen;omega) (by omega) hY.size;exact⟨u,W',bg (.tmp 27) (.tmp 29) 23 rfl rfl eq hr,h2,h3,h5⟩
   ·intro a Y hY hd ho;have e34:=hd 12 _ 34 rfl rfl ⟨⟨12,.data⟩,by simp,rfl,rfl⟩;obtain⟨u,W',hr,hA⟩:=gA 23 23 32 i0 _ 3 56 Try.bY eT ee gi jT rfl (by decide) oi.out hY ho (by unfold maxLen;omega) (by omega);have en:k+1+(n - k)=n+1:=by omega
    rw[en]at hA;exact⟨u,W',bg (.tmp 30) (.tmp 34) 23 rfl rfl e34 hr,hA⟩
   ·intro a Y hY Gb ho;obtain⟨g,cap,eu,_,_⟩:=ho.form (by omega);have t35:=(RY.af a 35).trans eu;have t36:a.tmps[36]?.getD undef=_:=(RY.af a 36).trans Gb;have B1:=fC.out.box.ae hY;have z2:=B1.get 0 _ rfl;have zf:=B1.own.frozen 0;refine⟨Y.setCell ⟨b0,0,none⟩ (.slice (some ⟨g,0,none⟩) (n+1) cap),by simp[execOp,go_sem,t35,t36,z2,zf], ?_⟩;rw[eu]at ho ⊢;exact QtK.mk' iG.out (fC.out.ae hY) (by have:=fC.out.res.own.lt;omega) ho (eO.out.ae hY) mh.out
   ·rintro vals W hK;simp only[RY.aE,Act.put,List.setIfInBounds_toArray,List.set_cons_zero,List.set_cons_succ];generalize vals 22=s22;generalize vals 23=s23;generalize vals 24=s24;generalize vals 25=s25;generalize vals 26=s26;generalize vals 27=s27;generalize vals 28=s28;generalize vals 29=s29;generalize vals 30=s30;generalize vals 31=pY;generalize vals 32=o6;generalize vals 33=og;generalize vals 34=oz;generalize vals 35=k6 at hK ⊢;generalize vals 36=k9;obtain⟨g,cap,eu⟩:=hK.form;subst eu;have HK:=uh hK;clear hK fC uP qC sY oi eO;go_upto_region 5 with fail
    have jH:=HK.out.box.at_;have lf:=HK.out.box.own.lt;have uQ:=HK.out.res.own.lt;have bG:W.there (b0+2) 0 (#[.slice (some ⟨g,0,none⟩) (n+1) cap]:Array Value).size:=aR HK.out.res.own _ _ (by simp);obtain⟨we,bj⟩:∃ we,we=W.setCells (b0+2) 0 [.slice (some ⟨g,0,none⟩) (n+1) cap]:=⟨_,rfl⟩
    have dv:we.rangeAt (b0+2) 0 [.slice (some ⟨g,0,none⟩) (n+1) cap]:=by rw[bj];exact World.rangeAt_setCells_same _ _ _ _ bG
    have iB:Hid (Marks (fun b=>b=b0+2) W we):=by show Marks _ _ _;rw[bj];exact aN (S:=fun b=>b=b0+2) rfl _ _ _
    go_wp2_with (first|(refine wpList_load_mid rfl 25 _ rfl b0 0 rfl [.slice (some ⟨g,0,none⟩) (n+1) cap] _ jH Try.underlying25 rfl (by kernel_rfl) ?_)|(refine wpList_store_mid rfl 25 _ _ rfl (b0+2) 0 #[.slice (some ⟨g,0,none⟩) (n+1) cap] rfl rfl bG (by kernel_rfl) (by simp[Value.oneCell']) ?_))
    first|rw[← bj]|(simp only[List.toList_toArray];rw[← bj])
    try simp only[Act.put]
    refine bodyPost_ret (v:=.agg #[.slice (some ⟨g,0,none⟩) (n+1) cap]) (by simp[results,Try.results70,asAddr,run_loadVar_mid (P:=Try.prog) _ _ _ 25 [.slice (some ⟨g,0,none⟩) (n+1) cap] _ dv Try.underlying25 rfl (by kernel_rfl)]) rfl ?_;exact HK.out.ans iG.out iB.out mh.out lb.out (fun b hb=>by rcases BK.out b hb with h|h;exact Or.inl (G8.out b h);exact Or.inr (by simpa using h))
  have eP:k<s.length:=by have:=HN.out;omega
  rcases cL (HL.out.ae HO.out.bel).raw with⟨e0,_⟩|⟨p,o,c,hv,hp,ec,aZ⟩
  ·omega
  rw[← HN.out]at hv;injection hv with g1 _ g3
  subst g1;subst g3;obtain⟨ya,yc,mj,oX⟩:=aZ k eP;obtain⟨y,hy⟩:∃ y,y=s.getD k Pl.aG:=⟨_,rfl⟩
  rw[← hy]at mj oX;have HY:=uh hy;have xZ:=uh mj;have iI:=uh hp;have EN:=uh (L7.out.ae HO.out.bel);have xQ:=uh oX;have Eb:(k:Int)<(n:Int):=by omega
  have dd:(0:Int)≤(k:Int):=by omega
  have de:(k:Int)<(n:Int):=by omega
  clear hy mj oX hp aZ ec;cases gj:Pl.ahead y x
  ·have lU:Hid (∀ X,Bel wr X→Calls Try.prog 30 #[.agg #[.string y.kind,.string y.name,.slice ya y.lines.length yc],.agg #[.string x.kind,.string x.name,.slice xa x.lines.length xc]] X fun e w'=>e=.returned (.bool false)∧Bel X w'):=fun X hX=>by
    have:=lB y x (.slice ya y.lines.length yc) (.slice xa x.lines.length xc) X;rwa [gj]at this
   have oH:Hid (Pl.fs s x=s.take k++x::s.drop k):=IZ.out (Or.inr (by rw[← HY.out];exact gj));have lb:Hid ((Pl.fs s x).length=n+1):=by show _=_;rw[oH.out,List.length_append,List.length_cons,List.length_take,List.length_drop];have:=HN.out;omega
   go_upto_region 2 with fail
   refine RY.aH wr zR (VQc x y (some ⟨p,o,none⟩) xa ya vc xc yc p o n k b0) (y4 _ _ _ _ _ _ _ _ _ _ _ _ _) (by kernel_rfl) (by kernel_rfl) (by kernel_rfl) (by kernel_rfl) ?_ ?_
   ·intro i o' ho a X hX hk hd;have z2:=(HO.out.box.ae hX).get 0 _ rfl;have rx:=(HO.out.arg.ae hX).at_;have ry:=aA xZ.out iI.out hX;match i,ho with
    |0,rfl=>
     exact RY.n (RY.p (.int .i64 (k:Int)) (by simp[execOp,go_sem,RY.K hk 5 (.int .i64 (k:Int))]))
    |1,rfl=>
     exact RY.n (RY.p (.pointer (some ⟨b0,0,none⟩)) (by simp[execOp,go_sem,RY.K hk 2 (.pointer (some ⟨b0,0,none⟩))]))
    |2,rfl=>
     exact RY.n (RY.p (.slice (some ⟨p,o,none⟩) n vc) (by simp[execOp,go_sem,RY.E hd 1 7,z2]))
    |3,rfl=>
     exact RY.n (RY.p (.int .i64 (n:Int)) (by simp[go_sem,RY.E hd 2 8]))
    |4,rfl=>
     exact RY.n (RY.p (.bool true) (by simp[execOp,go_sem,RY.E hd 0 6,RY.E hd 3 9,Eb]))
    |5,rfl=>
     exact RY.n (RY.p (.bool true) (by simp[execOp,go_sem,RY.E hd 4 10]))
    |6,rfl=>
     exact RY.on hd 5 11 (RY.p (.pointer (some ⟨b0,0,none⟩)) (by simp[execOp,go_sem,RY.K hk 2 (.pointer (some ⟨b0,0,none⟩))]))
    |7,rfl=>
     exact RY.on hd 5 11 (RY.p (.slice (some ⟨p,o,none⟩) n vc) (by simp[execOp,go_sem,RY.E hd 6 12,z2]))
    |8,rfl=>
     exact RY.on hd 5 11 (RY.p (.int .i64 (k:Int)) (by simp[execOp,go_sem,RY.K hk 5 (.int .i64 (k:Int))]))
    |9,rfl=>
     exact RY.on hd 5 11 (RY.p (.pointer (some ⟨p,o+k*3,none⟩)) (by simp[execOp,go_sem,RY.E hd 7 13,RY.E hd 8 14,dd,de]))
    |10,rfl=>
     have gd:=hd 5 _ 11 rfl rfl ⟨⟨5,.guard⟩,by simp,rfl,rfl⟩;exact Or.inl ⟨(RY.ak rfl rfl rfl gd).trans rfl,Or.inl ⟨.agg #[.string y.kind,.string y.name,.slice ya y.lines.length yc],X,aq 32 _ rfl p (o+k*3) ((RY.af a 15).symm.trans (RY.E hd 9 15)) [.string y.kind,.string y.name,.slice ya y.lines.length yc] _ ry Try.underlying32 rfl (by kernel_rfl),zR,rfl⟩⟩
    |11,rfl=>
     have gd:=hd 5 _ 11 rfl rfl ⟨⟨5,.guard⟩,by simp,rfl,rfl⟩;exact Or.inl ⟨(RY.ak rfl rfl rfl gd).trans rfl,Or.inl ⟨.agg #[.string x.kind,.string x.name,.slice xa x.lines.length xc],X,aq 32 _ rfl (b0+1) 0 ((RY.af a 3).symm.trans (RY.K hk 3 (.pointer (some ⟨b0+1,0,none⟩)))) [.string x.kind,.string x.name,.slice xa x.lines.length xc] _ rx Try.underlying32 rfl (by kernel_rfl),zR,rfl⟩⟩
    |12,rfl=>
     have e16:=RY.E hd 10 16;have e17:=RY.E hd 11 17;refine RY.on hd 5 11 (.inr ⟨30,#[.agg #[.string y.kind,.string y.name,.slice ya y.lines.length yc],.agg #[.string x.kind,.string x.name,.slice xa x.lines.length xc]],by simp[go_sem,e16,e17],(lU.out X hX).mono ?_⟩);rintro e W' ⟨rfl,hb⟩;exact⟨_,rfl,hb,rfl⟩
    |13,rfl=>
     exact RY.n (RY.p (.bool false) (by simp[execOp,go_sem,RY.E hd 5 11,RY.E hd 12 18]))
    |n+14,ho=>simp at ho
   intro X vs hX bd;have q19:vs 19=_:=bd 13 _ 19 rfl rfl;simp only[RY.aE,Act.put,List.setIfInBounds_toArray,List.set_cons_zero,List.set_cons_succ];rw[q19];generalize vs 6=s6,vs 7=s7,vs 8=s8,vs 9=s9,vs 10=s10,vs 11=s11,vs 12=s12,vs 13=s13,vs 14=s14,vs 15=s15,vs 16=s16,vs 17=s17,vs 18=s18;clear bd q19;have fC:=uh (HO.out.ae hX);clear hX HO;obtain⟨lv,ti⟩:∃ z,z=Value.slice (some ⟨p,o,none⟩) n vc:=⟨_,rfl⟩
   have iD:Hid (Rep X false aV F [aW s] [lv]):=by show Rep _ _ _ _ _ _;rw[ti];exact HL.out.ae fC.out.bel
   rw[← ti]at fC;clear ti;obtain⟨s1,s2,vs,G,hR,pX,jg,my,Bi,tC⟩:=mO (P:=Try.prog) (t:=23) Try.dy (Try.iX ▸ eT) gi iD.out k (by have:=HN.out;omega);obtain⟨G2,eL,oY⟩:=mK (sh:=ar) blD iy (k:=k) (x:=x) (by have:=HN.out;omega) hR (Ko.out.ae fC.out.bel);have pd:vs.length=n*3:=by rw[hR.len,bq,← HN.out];rfl
   have Hq:k*3≤n*3:=by omega
   rw[← oH.out]at eL;rw[← HN.out]at eL my;have uP:=uh Bi;have qC:=uh tC;have sY:=uh jg;have oi:=uh my;have mh:Hid (∀ b∈G2,b<b0):=fun b hb=>by rcases oY b hb with h|h;exact Hy.out b (pX b h);exact DR.out b h
   have BK:=uh oY;have G8:=uh pX;have eO:=uh eL;clear Bi tC jg my hR pX eL oY iD;go_upto_region 4 with fail
   refine RY.ig X zR 32 3 k (k+1) (n+1) (vs.take (k*3)) (vs.take (k*3)++[.string x.kind,.string x.name,.slice xa x.lines.length xc]) (vs.take (k*3)++[.string x.kind,.string x.name,.slice xa x.lines.length xc]++vs.drop (k*3)) #[.string x.kind,.string x.name,.slice xa x.lines.length xc] (VIb lv s1 s2 k b0 #[.string x.kind,.string x.name,.slice xa x.lines.length xc]) (fun u W'=>QtK w b0 n u G2 ((Pl.fs s x).flatMap blD) (vs.take (k*3)++[.string x.kind,.string x.name,.slice xa x.lines.length xc]++vs.drop (k*3)) W') 12 22 27 29 30 35 36 (by kernel_rfl) (by kernel_rfl) (by kernel_rfl) (by kernel_rfl) (by kernel_rfl) rfl (by kernel_rfl) _ _ _ _ _ _ _ rfl rfl rfl rfl rfl rfl rfl rfl rfl rfl rfl rfl rfl rfl (by kernel_rfl) (by kernel_rfl) (by kernel_rfl) (by kernel_rfl) (by kernel_rfl) (by kernel_rfl) ?_ ?_ ?_ ?_ ?_ ?_ ?_ ?_ ?_
   ·intro i u h;rcases h with rfl|rfl|rfl|rfl|rfl<;>exact trivial
   ·intro i o' ho n0 n5 n7 n8 n13 n15 a Y hY hk hd;have z2:=(fC.out.box.ae hY).get 0 _ rfl;have rx:=(fC.out.arg.ae hY).at_;match i,ho with
    |0,ho=>exact absurd rfl n0
    |1,rfl|9,rfl|14,rfl=>
     exact⟨.pointer (some ⟨b0,0,none⟩),by simp[execOp,go_sem,RY.K hk 2 (.pointer (some ⟨b0,0,none⟩))],rfl⟩
    |2,rfl=>
     have e23:a.tmps[23]?.getD undef=_:=(RY.af a 23).trans (hd 1 _ 23 rfl rfl ⟨⟨1,.data⟩,by simp,rfl,rfl⟩);exact⟨lv,by simp[execOp,go_sem,e23,z2],rfl⟩
    |3,rfl|11,rfl=>
     exact⟨.int .i64 (k:Int),by simp[execOp,go_sem,RY.K hk 5 (.int .i64 (k:Int))],rfl⟩
    |4,rfl=>
     have f24:a.eval (.tmp 24)=lv:=hd 2 _ 24 rfl rfl ⟨⟨2,.data⟩,by simp,rfl,rfl⟩;have f25:a.eval (.tmp 25)=.int .i64 (k:Int):=hd 3 _ 25 rfl rfl ⟨⟨3,.data⟩,by simp,rfl,rfl⟩;exact⟨s1,by simp[execOp,f24,f25,run_sliceAt_slice (P:=Try.prog) (w:=Y) 23 lv none (some (.int .i64 (k:Int))) none Try.dy,uP.out],rfl⟩
    |5,ho=>exact absurd rfl n5
    |6,rfl=>
     exact⟨.agg #[.string x.kind,.string x.name,.slice xa x.lines.length xc],aq 32 _ rfl (b0+1) 0 ((RY.af a 3).symm.trans (RY.K hk 3 (.pointer (some ⟨b0+1,0,none⟩)))) [.string x.kind,.string x.name,.slice xa x.lines.length xc] _ rx Try.underlying32 rfl (by kernel_rfl),rfl⟩
    |7,ho=>exact absurd rfl n7
    |8,ho=>exact absurd rfl n8
    |10,rfl=>
     have e31:a.tmps[31]?.getD undef=_:=(RY.af a 31).trans (hd 9 _ 31 rfl rfl ⟨⟨9,.data⟩,by simp,rfl,rfl⟩);exact⟨lv,by simp[execOp,go_sem,e31,z2],rfl⟩
    |12,rfl=>
     have f32:a.eval (.tmp 32)=lv:=hd 10 _ 32 rfl rfl ⟨⟨10,.data⟩,by simp,rfl,rfl⟩;have f33:a.eval (.tmp 33)=.int .i64 (k:Int):=hd 11 _ 33 rfl rfl ⟨⟨11,.data⟩,by simp,rfl,rfl⟩;exact⟨s2,by simp[execOp,f32,f33,run_sliceAt_slice (P:=Try.prog) (w:=Y) 23 lv (some (.int .i64 (k:Int))) none none Try.dy,qC.out],rfl⟩
    |13,ho=>exact absurd rfl n13
    |15,ho=>exact absurd rfl n15
    |n+16,ho=>simp at ho
   ·intro a Y;simp[execOp,go_sem]
   ·intro a Y hd;have e28:a.tmps[28]?.getD undef=_:=(RY.af a 28).trans (hd 6 _ 28 rfl rfl ⟨⟨6,.data⟩,by simp,rfl,rfl⟩);simp[execOp,go_sem,e28]
   ·intro a Y hY hd ho;have e26:=hd 4 _ 26 rfl rfl ⟨⟨4,.data⟩,by simp,rfl,rfl⟩;obtain⟨u,W',hr,hA⟩:=gA 23 23 32 i0 _ 3 56 Try.bY eT ee gi jT rfl (by decide) sY.out hY ho (by unfold maxLen;omega) (by omega);rw[Nat.zero_add,List.nil_append]at hA;exact⟨u,W',bg (.tmp 22) (.tmp 26) 23 rfl rfl e26 hr,hA⟩
   ·intro a Y hY ho q eq hq;obtain⟨u,W',hr,h2,h3,_,h5⟩:=run_append_own_at (P:=Try.prog) Y X.heap.size 23 23 32 i0 _ 3 56 Try.bY eT ee gi jT rfl (by decide) _ k _ ho ⟨q,0,none⟩ 1 1 [.string x.kind,.string x.name,.slice xa x.lines.length xc] rfl (fun j y hy=>by rw[Addr.add_mid,Nat.zero_add];simp only[World.cell?,hq];simpa using hy) (by simp[Value.oneCell']) (by unfold maxLen;omega) (by omega) hY.size;exact⟨u,W',bg (.tmp 27) (.tmp 29) 23 rfl rfl eq hr,h2,h3,h5⟩
   ·intro a Y hY hd ho;have e34:=hd 12 _ 34 rfl rfl ⟨⟨12,.data⟩,by simp,rfl,rfl⟩;obtain⟨u,W',hr,hA⟩:=gA 23 23 32 i0 _ 3 56 Try.bY eT ee gi jT rfl (by decide) oi.out hY ho (by unfold maxLen;omega) (by omega);have en:k+1+(n - k)=n+1:=by omega
    rw[en]at hA;exact⟨u,W',bg (.tmp 30) (.tmp 34) 23 rfl rfl e34 hr,hA⟩
   ·intro a Y hY Gb ho;obtain⟨g,cap,eu,_,_⟩:=ho.form (by omega);have t35:=(RY.af a 35).trans eu;have t36:a.tmps[36]?.getD undef=_:=(RY.af a 36).trans Gb;have B1:=fC.out.box.ae hY;have z2:=B1.get 0 _ rfl;have zf:=B1.own.frozen 0;refine⟨Y.setCell ⟨b0,0,none⟩ (.slice (some ⟨g,0,none⟩) (n+1) cap),by simp[execOp,go_sem,t35,t36,z2,zf], ?_⟩;rw[eu]at ho ⊢;exact QtK.mk' iG.out (fC.out.ae hY) (by have:=fC.out.res.own.lt;omega) ho (eO.out.ae hY) mh.out
   ·rintro vals W hK;simp only[RY.aE,Act.put,List.setIfInBounds_toArray,List.set_cons_zero,List.set_cons_succ];generalize vals 22=s22;generalize vals 23=s23;generalize vals 24=s24;generalize vals 25=s25;generalize vals 26=s26;generalize vals 27=s27;generalize vals 28=s28;generalize vals 29=s29;generalize vals 30=s30;generalize vals 31=pY;generalize vals 32=o6;generalize vals 33=og;generalize vals 34=oz;generalize vals 35=k6 at hK ⊢;generalize vals 36=k9;obtain⟨g,cap,eu⟩:=hK.form;subst eu;have HK:=uh hK;clear hK fC uP qC sY oi eO;go_upto_region 5 with fail
    have jH:=HK.out.box.at_;have lf:=HK.out.box.own.lt;have uQ:=HK.out.res.own.lt;have bG:W.there (b0+2) 0 (#[.slice (some ⟨g,0,none⟩) (n+1) cap]:Array Value).size:=aR HK.out.res.own _ _ (by simp);obtain⟨we,bj⟩:∃ we,we=W.setCells (b0+2) 0 [.slice (some ⟨g,0,none⟩) (n+1) cap]:=⟨_,rfl⟩
    have dv:we.rangeAt (b0+2) 0 [.slice (some ⟨g,0,none⟩) (n+1) cap]:=by rw[bj];exact World.rangeAt_setCells_same _ _ _ _ bG
    have iB:Hid (Marks (fun b=>b=b0+2) W we):=by show Marks _ _ _;rw[bj];exact aN (S:=fun b=>b=b0+2) rfl _ _ _
    go_wp2_with (first|(refine wpList_load_mid rfl 25 _ rfl b0 0 rfl [.slice (some ⟨g,0,none⟩) (n+1) cap] _ jH Try.underlying25 rfl (by kernel_rfl) ?_)|(refine wpList_store_mid rfl 25 _ _ rfl (b0+2) 0 #[.slice (some ⟨g,0,none⟩) (n+1) cap] rfl rfl bG (by kernel_rfl) (by simp[Value.oneCell']) ?_))
    first|rw[← bj]|(simp only[List.toList_toArray];rw[← bj])
    try simp only[Act.put]
    refine bodyPost_ret (v:=.agg #[.slice (some ⟨g,0,none⟩) (n+1) cap]) (by simp[results,Try.results70,asAddr,run_loadVar_mid (P:=Try.prog) _ _ _ 25 [.slice (some ⟨g,0,none⟩) (n+1) cap] _ dv Try.underlying25 rfl (by kernel_rfl)]) rfl ?_;exact HK.out.ans iG.out iB.out mh.out lb.out (fun b hb=>by rcases BK.out b hb with h|h;exact Or.inl (G8.out b h);exact Or.inr (by simpa using h))
  ·have lU:Hid (∀ X,Bel wr X→Calls Try.prog 30 #[.agg #[.string y.kind,.string y.name,.slice ya y.lines.length yc],.agg #[.string x.kind,.string x.name,.slice xa x.lines.length xc]] X fun e w'=>e=.returned (.bool true)∧Bel X w'):=fun X hX=>by
    have:=lB y x (.slice ya y.lines.length yc) (.slice xa x.lines.length xc) X;rwa [gj]at this
   have BK:Hid (∀ j,j<k+1→Pl.ahead (s.getD j Pl.aG) x=true):=fun j hj=>by
    by_cases e:j=k
    ·rw[e,← HY.out];exact gj
    ·exact HI.out j (by omega)
   go_upto_region 2 with fail
   refine RY.aH wr zR (VQb x y (some ⟨p,o,none⟩) xa ya vc xc yc p o n k b0) (AQ _ _ _ _ _ _ _ _ _ _ _ _ _) (by kernel_rfl) (by kernel_rfl) (by kernel_rfl) (by kernel_rfl) ?_ ?_
   ·intro i o' ho a X hX hk hd;have z2:=(HO.out.box.ae hX).get 0 _ rfl;have rx:=(HO.out.arg.ae hX).at_;have ry:=aA xZ.out iI.out hX;match i,ho with
    |0,rfl=>
     exact RY.n (RY.p (.int .i64 (k:Int)) (by simp[execOp,go_sem,RY.K hk 5 (.int .i64 (k:Int))]))
    |1,rfl=>
     exact RY.n (RY.p (.pointer (some ⟨b0,0,none⟩)) (by simp[execOp,go_sem,RY.K hk 2 (.pointer (some ⟨b0,0,none⟩))]))
    |2,rfl=>
     exact RY.n (RY.p (.slice (some ⟨p,o,none⟩) n vc) (by simp[execOp,go_sem,RY.E hd 1 7,z2]))
    |3,rfl=>
     exact RY.n (RY.p (.int .i64 (n:Int)) (by simp[go_sem,RY.E hd 2 8]))
    |4,rfl=>
     exact RY.n (RY.p (.bool true) (by simp[execOp,go_sem,RY.E hd 0 6,RY.E hd 3 9,Eb]))
    |5,rfl=>
     exact RY.n (RY.p (.bool true) (by simp[execOp,go_sem,RY.E hd 4 10]))
    |6,rfl=>
     exact RY.on hd 5 11 (RY.p (.pointer (some ⟨b0,0,none⟩)) (by simp[execOp,go_sem,RY.K hk 2 (.pointer (some ⟨b0,0,none⟩))]))
    |7,rfl=>
     exact RY.on hd 5 11 (RY.p (.slice (some ⟨p,o,none⟩) n vc) (by simp[execOp,go_sem,RY.E hd 6 12,z2]))
    |8,rfl=>
     exact RY.on hd 5 11 (RY.p (.int .i64 (k:Int)) (by simp[execOp,go_sem,RY.K hk 5 (.int .i64 (k:Int))]))
    |9,rfl=>
     exact RY.on hd 5 11 (RY.p (.pointer (some ⟨p,o+k*3,none⟩)) (by simp[execOp,go_sem,RY.E hd 7 13,RY.E hd 8 14,dd,de]))
    |10,rfl=>
     have gd:=hd 5 _ 11 rfl rfl ⟨⟨5,.guard⟩,by simp,rfl,rfl⟩;exact Or.inl ⟨(RY.ak rfl rfl rfl gd).trans rfl,Or.inl ⟨.agg #[.string y.kind,.string y.name,.slice ya y.lines.length yc],X,aq 32 _ rfl p (o+k*3) ((RY.af a 15).symm.trans (RY.E hd 9 15)) [.string y.kind,.string y.name,.slice ya y.lines.length yc] _ ry Try.underlying32 rfl (by kernel_rfl),zR,rfl⟩⟩
    |11,rfl=>
     have gd:=hd 5 _ 11 rfl rfl ⟨⟨5,.guard⟩,by simp,rfl,rfl⟩;exact Or.inl ⟨(RY.ak rfl rfl rfl gd).trans rfl,Or.inl ⟨.agg #[.string x.kind,.string x.name,.slice xa x.lines.length xc],X,aq 32 _ rfl (b0+1) 0 ((RY.af a 3).symm.trans (RY.K hk 3 (.pointer (some ⟨b0+1,0,none⟩)))) [.string x.kind,.string x.name,.slice xa x.lines.length xc] _ rx Try.underlying32 rfl (by kernel_rfl),zR,rfl⟩⟩
    |12,rfl=>
     have e16:=RY.E hd 10 16;have e17:=RY.E hd 11 17;refine RY.on hd 5 11 (.inr ⟨30,#[.agg #[.string y.kind,.string y.name,.slice ya y.lines.length yc],.agg #[.string x.kind,.string x.name,.slice xa x.lines.length xc]],by simp[go_sem,e16,e17],(lU.out X hX).mono ?_⟩);rintro e W' ⟨rfl,hb⟩;exact⟨_,rfl,hb,rfl⟩
    |13,rfl=>
     exact RY.n (RY.p (.bool true) (by simp[execOp,go_sem,RY.E hd 5 11,RY.E hd 12 18]))
    |n+14,ho=>simp at ho
   intro X vs hX bd;have q19:vs 19=_:=bd 13 _ 19 rfl rfl;simp only[RY.aE,Act.put,List.setIfInBounds_toArray,List.set_cons_zero,List.set_cons_succ];rw[q19];generalize vs 6=s6,vs 7=s7,vs 8=s8,vs 9=s9,vs 10=s10,vs 11=s11,vs 12=s12,vs 13=s13,vs 14=s14,vs 15=s15,vs 16=s16,vs 17=s17,vs 18=s18;clear bd q19;have fC:=uh (HO.out.ae hX);clear hX HO;go_wp2;go_roundw
   case rel=>exact⟨k+1,by omega,by go_num,fC.out,BK.out⟩
   case measure=>simp[intOf];omega
namespace RY
theorem cn {P:Program} {op:Oper} {a:Act} {W:World} (ty:TypeId) (x y:Operand) (ho:op.op=.store ty x y) {b o:Nat} {cs:List Value} (hx:a.eval x=.pointer (some ⟨b,o,none⟩)) (hy:a.eval y=.agg cs.toArray)
  (ht:W.there b o cs.toArray.size) (hi:(P.info? ty).map (·.size)=some cs.toArray.size) (h1:cs.toArray.all (·.oneCell')=true):(execOp a.eval op).run P W=.ok .skip (W.setCells b o cs):=by
 unfold execOp;simp only[ho,hx,hy,Instr.storeAt,Instr.sureAddr,Sem.run_bind,Sem.run_pure,Result.andThen_ok,run_storeVar_mid W b o ty cs.toArray ht hi h1]
end RY
def Dat (S:Nat→Prop) (B lo:Nat) (W:World) (sh:List Sh) (A:List Dt) (c:List Value):Prop:=∃ F,Rep W false sh F A c∧∀ b∈F,(S b∧b<B)∨lo≤b
theorem Dat.ae {S:Nat→Prop} {B lo:Nat} {W W':World} {sh:List Sh} {A:List Dt} {c:List Value} (h:Dat S B lo W sh A c) (hb:Bel W W'):Dat S B lo W' sh A c:=by
 obtain⟨F,r,f⟩:=h;exact⟨F,r.ae hb,f⟩
theorem Dat.aY {S T:Nat→Prop} {B lo:Nat} {W W':World} {sh:List Sh} {A:List Dt} {c:List Value} (h:Dat S B lo W sh A c) (hb:Marks T W W') (hT:∀ b,T b→B≤b∧b<lo):Dat S B lo W' sh A c:=by
 obtain⟨F,r,f⟩:=h;refine⟨F,r.aY hb fun b fE e=> ?_,f⟩;have:=hT b e;rcases f b fE with q|q<;>omega
theorem Dat.raw {S:Nat→Prop} {B lo:Nat} {W:World} {sh:List Sh} {A:List Dt} {c:List Value} (h:Dat S B lo W sh A c):Raw W sh A c:=by
 obtain⟨F,r,f⟩:=h;exact r.raw
theorem qe {S:Nat→Prop} {B lo:Nat} {w:World} {t:TypeId} {sh:List Sh}:Dat S B lo w [.row t sh] [.row 0 []] [.slice none 0 0]:=⟨[],.emp _ _ _ rfl .nil,by simp⟩
def C5 (S:Nat→Prop) (B lo:Nat) (sh:List Sh) (A:List Dt) (W:World) (e:Ending) (w':World):Prop:=∃ c,e=.returned (.agg c.toArray)∧Dat S B lo w' sh A c∧Bel W w'
theorem rY {S:Nat→Prop} {B lo:Nat} {sh:List Sh} {A:List Dt} {W w':World} {e:Ending} {T:Nat→Prop} (h:yX sh A T W e w') (hT:∀ b,T b→(S b∧b<B)∨lo≤b) (hl:lo≤W.heap.size):C5 S B lo sh A W e w':=by
 obtain⟨c,F,he,r,f,hb⟩:=h;refine⟨c,he,⟨F,r,fun b hb=> ?_⟩,hb⟩;rcases f b hb with q|q
 ·exact hT b q
 ·exact Or.inr (by omega)
theorem lN {S:Nat→Prop} {B lo:Nat} {W:World} {b:Pl.Bl} {c:List Value} (h:Dat S B lo W ar (blD b) c):∃ a m,c=[.string b.kind,.string b.name,.slice a b.lines.length m]∧Dat S B lo W aJ [aU b.lines] [.slice a b.lines.length m]:=by
 obtain⟨F,r,f⟩:=h;obtain⟨F2,v2,hF,hc,r2⟩:=dZ r;subst hc;obtain⟨a,m,rfl⟩:=r2.raw.aP;refine⟨a,m,rfl,F2,r2,fun b hb=>f b ?_⟩;rw[hF];simp[hb]
theorem pJ {S:Nat→Prop} {B lo:Nat} {W:World} {s:List Pl.Bl} {c:List Value} (h:Dat S B lo W bX [aW s] c):∃ a m,c=[.slice a s.length m]∧Dat S B lo W aV [aW s] [.slice a s.length m]:=by
 obtain⟨F,r,f⟩:=h;obtain⟨F2,v2,hF,hc,r2⟩:=du r;subst hc;obtain⟨a,m,rfl⟩:=r2.raw.aP;refine⟨a,m,rfl,F2,r2,fun b hb=>f b ?_⟩;rw[hF];simp[hb]
theorem Rep.elE {w:World} {tt:Bool} {n q:Nat} {sh:List Sh} {G:List Nat} {es:List Dt} {vs:List Value} (h:Rep w tt (bP n sh) G es vs) (hq:q<n) {p o:Nat} (hr:w.rangeAt p o vs):∃ ve G',Rep w tt sh G' (Go.Proofs.Ytmgibmmpopoboaa.el sh.length q es) ve∧w.rangeAt p (o+q*sh.length) ve∧∀ b∈G',b∈G:=by
 rw[eG hq]at h;obtain⟨F1,F2,d1,d2,c1,c2,rfl,rfl,rfl,h1,h2⟩:=Rep.cut _ h;obtain⟨F3,F4,d3,d4,c3,c4,rfl,rfl,rfl,h3,h4⟩:=Rep.cut _ h2;rw[qk (by rw[h1.raw.typ.len,bq]) h3.raw.typ.len];refine⟨c3,F3,h3, ?_,fun b hb=>by simp[hb]⟩;have:=(dB (dB hr).2).1;rwa [h1.len,bq]at this
theorem Cx {S:Nat→Prop} {B lo:Nat} {W:World} {l:List Pl.Ln} {v:Value} (h:Dat S B lo W aJ [aU l] [v]) {k:Nat} (hk:k<l.length):∃ p o c a m,v=.slice (some ⟨p,o,none⟩) l.length c∧p<W.heap.size∧l.length≤maxLen∧W.rangeAt p (o+k*2) [.string (l.getD k Pl.aQ).key,.slice a (l.getD k Pl.aQ).ws.length m]∧Dat S B lo W cA [.row (l.getD k Pl.aQ).ws.length (txD (l.getD k Pl.aQ).ws)] [.slice a (l.getD k Pl.aQ).ws.length m]:=by
 obtain⟨F,r,f⟩:=h;rcases r.slice with⟨_,h0,_⟩|⟨p,o,c,u,m,G,hv,hF,hn,ho,hm,_,vs,hr,hR⟩
 ·omega
 obtain⟨ve,G',hE,hg,hG⟩:=hR.elE hk hr;have e:el au.length k (l.flatMap lnD)=lnD (l.getD k Pl.aQ):=fJ Pl.aQ lnD 2 kT l k hk;rw[e]at hE;obtain⟨F2,v2,eM,hc,r2⟩:=dT hE;subst hc;obtain⟨a,m',fK⟩:=r2.raw.aP;subst fK;exact⟨p,o,c,a,m',hv,ho.lt,hn.1,hg,F2,r2,fun b hb=>f b (by rw[hF];exact List.mem_cons_of_mem _ (hG b (by rw[eM];simp[hb])))⟩
theorem i3 {S:Nat→Prop} {B lo:Nat} (b:Pl.Bl) (x:Pl.Ln) (lv wv:Value) (w:World) (h:Dat S B lo w aJ [aU b.lines] [lv]) (hx:Dat S B lo w cA [.row x.ws.length (txD x.ws)] [wv]) (hl:b.lines.length≤4194304) (eN:lo≤w.heap.size):
  Calls Try.prog 25 #[.agg #[.string b.kind,.string b.name,lv],.agg #[.string x.key,wv]] w (C5 S B lo ar (blD ⟨b.kind,b.name,Pl.dD b.kind b.lines x⟩) w):=by
 obtain⟨F,r,f⟩:=h;obtain⟨Fx,rx,fx⟩:=hx;exact(rB b x lv wv F Fx w r rx hl).mono fun e w' h=>rY h (fun b hb=>hb.elim (f b) (fx b)) eN
theorem kV {S:Nat→Prop} {B lo:Nat} (s:List Pl.Bl) (x:Pl.Bl) (lv wv:Value) (w:World) (h:Dat S B lo w aV [aW s] [lv]) (hx:Dat S B lo w aJ [aU x.lines] [wv]) (hl:s.length≤4194304) (eN:lo≤w.heap.size):
  Calls Try.prog 70 #[.agg #[lv],.agg #[.string x.kind,.string x.name,wv]] w (C5 S B lo bX [aW (Pl.fs s x)] w):=by
 obtain⟨F,r,f⟩:=h;obtain⟨Fx,rx,fx⟩:=hx;exact(qa s x lv wv F Fx w r rx hl).mono fun e w' h=>rY h (fun b hb=>hb.elim (f b) (fx b)) eN
namespace Pl
theorem lO (k:ByteArray) (l:List Ln) (x:Ln):(dD k l x).length=l.length+1:=by
 have:=List.takeWhile_append_dropWhile (p:=fun y=>aT k y x) (l:=l);have h2:(l.takeWhile fun y=>aT k y x).length+(l.dropWhile fun y=>aT k y x).length=l.length:=by rw[← List.length_append,this]
 simp only[dD,putAt,List.length_append,List.length_cons];omega
theorem lJ (l:List Bl) (x:Bl):(fs l x).length=l.length+1:=by
 have:=List.takeWhile_append_dropWhile (p:=fun y=>ahead y x) (l:=l);have h2:(l.takeWhile fun y=>ahead y x).length+(l.dropWhile fun y=>ahead y x).length=l.length:=by rw[← List.length_append,this]
 simp only[fs,putAt,List.length_append,List.length_cons];omega
theorem js (k:ByteArray) (l:List Ln) (x y:Ln):y∈dD k l x↔y=x∨y∈l:=by
 have:=List.takeWhile_append_dropWhile (p:=fun y=>aT k y x) (l:=l);rw[dD,putAt,List.mem_append,List.mem_cons];conv=>rhs;rw[← this,List.mem_append]
 constructor<;>(rintro(h|h|h)<;>simp[h])
theorem pR (l:List Bl) (x y:Bl):y∈fs l x↔y=x∨y∈l:=by
 have:=List.takeWhile_append_dropWhile (p:=fun y=>ahead y x) (l:=l);rw[fs,putAt,List.mem_append,List.mem_cons];conv=>rhs;rw[← this,List.mem_append]
 constructor<;>(rintro(h|h|h)<;>simp[h])
theorem wC {l:List Ln} {p:Ln→Bool} {k:Nat} (hk:k<l.length):(l.take (k+1)).filter p=if p (l.getD k aQ) then (l.take k).filter p++[l.getD k aQ] else (l.take k).filter p:=by
 rw[dM aQ l k hk,List.filter_append,List.filter_cons,List.filter_nil];split<;>simp
end Pl
namespace Pl
theorem pj {s:List Bl} (h:aM s=true):s.length≤60:=by
 unfold aM at h;simp only[Bool.and_eq_true,decide_eq_true_eq]at h;exact h.1
end Pl
structure Sm (m:Nat) (b:Pl.Bl):Prop where
 nm:b.name.size≤maxLen
 ln:b.lines.length≤m
 ws:∀ x∈b.lines,x.ws.length≤4194304∧∀ t∈x.ws,t.size≤maxLen
theorem El {m:Nat} {s:List Pl.Bl} (h:∀ b∈s,Sm m b):kr s:=fun b hb=>⟨(h b hb).nm,fun x hx=>((h b hb).ws x hx).2⟩
theorem sm_at {m:Nat} {s:List Pl.Bl} (h:∀ b∈s,Sm m b) {k:Nat} (hk:k<s.length):Sm m (s.getD k Pl.aG):=by
 have e:s.getD k Pl.aG=s[k]:=by simp[hk]
 rw[e];exact h _ (List.getElem_mem hk)
end Go.Proofs.Ytmgibmmpopoboaa
