import Derived.Laws.CopyRow
import Derived.Laws.CopyOwn
import Derived.Laws.Externs
import Derived.Lib.Overlaps
import Derived.Deep.AppendLies
import Derived.Lib.AppendZeros
import Derived.Lib.AppendZerosOnto
import Derived.Shelf.RegionOpenPlain
import Derived.Deep.RegionWith
import Derived.Test.YtopjjknojnfhmaaGreatDoorEXa
import Derived.Test.YtopjjknojnfhmaaGreatDoorEIv
namespace Go.Proofs.YtopjjknojnfhmaaGreatDoor
open Go.RowKit Go.Deep
theorem km (b off i:Nat):(Addr.add ⟨b,off,none⟩ i)=⟨b,off+i,none⟩:=by
 unfold Addr.add;split<;>simp_all
theorem GC {w:World} {lo:Nat} {e:TypeId} {size:Nat} {v:Value} {n:Nat} {xs:List Value} (h:w.ownsRow lo e size v n xs):∃ a c,v=.slice a n c:=by
 rcases h.2 with⟨rfl,rfl⟩|⟨g,cap,cur,rfl,_⟩
 ·exact⟨_,_,rfl⟩
 ·exact⟨_,_,rfl⟩
theorem dN {W:World} {b:Nat} {o:Obj} (h:W.heap[b]? =some o):b<W.heap.size:=(Array.getElem?_eq_some_iff.1 h).1
theorem vQ {W:World} {lo:Nat} {e:TypeId} {size n q:Nat} {p:Option Addr} {xs:List Value} (h:W.ownsRow lo e size (.slice p n q) n xs) (hn:0<n):∃ g cur,p=some ⟨g,0,none⟩∧lo≤g∧W.heap[g]? =some (.cells cur e (0,0))∧xs.length≤cur.size∧∀ j u,xs[j]? =some u→W.cell? ⟨g,j,none⟩=some u:=by
 obtain⟨hx,h⟩:=h;rcases h with⟨_,e⟩|⟨g,cap,cur,hv,bR,hg,hc,_,hs,ht⟩
 ·omega
 ·cases hv
  have hle:n*size≤cur.size:=by rw[hs];exact Nat.mul_le_mul_right size hc
  refine⟨g,cur,rfl,bR,hg,by rw[hx];exact hle,fun j u hj=> ?_⟩;rw[← ht,List.getElem?_take]at hj;simp only[World.cell?,hg];split at hj
  ·simpa using hj
  ·cases hj
section
variable {P:Program}
def seg (cur:Array Value) (o:Nat) (cs:List Value):Array Value:=(cur.toList.take o++cs++cur.toList.drop (o+cs.length)).toArray
theorem fH {cur:Array Value} {o:Nat} {cs:List Value} (h:o+cs.length≤cur.size):(seg cur o cs).size=cur.size:=by
 unfold seg;simp only[List.size_toArray,List.length_append,List.length_take,List.length_drop,Array.length_toList];omega
theorem cK (w:World) (dT sT ty elem:TypeId) (size g o dLen dCap:Nat) (a:Addr) (sLen sCap:Nat) (cur:Array Value) (t:TypeId) (cs:List Value)
  (hu:P.underlying dT=some (.slice elem)) (hs:(P.info? elem).map (·.size)=some size)
  (hg:w.heap[g]? =some (.cells cur t (0,0))) (hn:cs.length=Nat.min sLen dLen*size)
  (kX:∀ j v,cs[j]? =some v→w.cell? (a.add j)=some v) (nL:o+cs.length≤cur.size) (h1:∀ v∈cs,v.oneCell'=true):
  (Builtin.copy_ #[dT,sT] ty #[.slice (some ⟨g,o,none⟩) dLen dCap,.slice (some a) sLen sCap]).run P w=
   .ok (goInt (Nat.min sLen dLen)) (w.setRow g (seg cur o cs)):=by
 have hl:=run_loadCells_list (P:=P) w a cs kX;have qz:=run_storeCells_at (P:=P) g o t cs 0 cur w hg (by simpa using nL) h1;rw[hn]at hl;simp only[Nat.add_zero]at qz;unfold seg;cases hq:P.info? elem with
 |none=>simp[hq]at hs
 |some i=>
  have hi:i.size=size:=by simpa [hq]using hs
  simp[Builtin.copy_,run_underlying hu,Builtin.lenOf,Builtin.firstCells,sizeOf,typeInfo,hq,hi,hl,qz]
theorem jc (cur:Array Value) (o:Nat) (cs:List Value):(seg cur o cs).toList=cur.toList.take o++cs++cur.toList.drop (o+cs.length):=rfl
theorem rV {l cs vs:List Value} {i n m:Nat} (hl:l.take n=cs) (hn:cs.length=n) (hm:vs.length=m) (hi:i≤n) (hr:n+m≤l.length) (cur:Array Value) (hc:cur.toList=l):
  (seg (seg cur (i+m) (cs.drop i)) i vs).toList.take (n+m)=cs.take i++vs++cs.drop i:=by
 have hd:(cs.drop i).length=n - i:=by rw[List.length_drop,hn]
 have e1:(l.take (i+m)).length=i+m:=by rw[List.length_take];omega
 have e2:i+m+(cs.drop i).length=n+m:=by rw[hd];omega
 rw[jc,jc,hc,hm,e2];have a1:(l.take (i+m)++cs.drop i++l.drop (n+m)).take i=cs.take i:=by
  rw[List.append_assoc,List.take_append_of_le_length (by omega),List.take_take,← hl,List.take_take];congr 1;omega
 have a2:(l.take (i+m)++cs.drop i++l.drop (n+m)).drop (i+m)=cs.drop i++l.drop (n+m):=by
  rw[List.append_assoc,List.drop_append_of_le_length (by omega),List.drop_of_length_le (by omega),List.nil_append]
 rw[a1,a2,← List.append_assoc,List.take_append_of_le_length (by simp only[List.length_append,List.length_take,hm,hd,hn];omega),List.take_of_length_le (by simp only[List.length_append,List.length_take,hm,hd,hn];omega)]
theorem vE {cs vs zs:List Value} {i n m:Nat} (hn:cs.length=n) (hm:vs.length=m) (hi:i≤n) (cur:Array Value) (hc:cur.toList=cs.take i++zs):
  (seg (seg cur i vs) (i+m) (cs.drop i)).toList.take (n+m)=cs.take i++vs++cs.drop i:=by
 have hd:(cs.drop i).length=n - i:=by rw[List.length_drop,hn]
 have e0:(cs.take i).length=i:=by rw[List.length_take];omega
 rw[jc,jc,hc,hm];have a1:(cs.take i++zs).take i=cs.take i:=by rw[List.take_append_of_le_length (by omega),List.take_of_length_le (by omega)]
 rw[a1];have a2:(cs.take i++vs++(cs.take i++zs).drop (i+m)).take (i+m)=cs.take i++vs:=by
  rw[List.take_append_of_le_length (by rw[List.length_append];omega),List.take_of_length_le (by rw[List.length_append];omega)]
 rw[a2,List.take_append_of_le_length (by simp only[List.length_append,hm,hd,e0];omega),List.take_of_length_le (by simp only[List.length_append,hm,hd,e0];omega)]
structure iq (p:Option Addr) (v W:World):Prop where
 os:W.os=v.os
 tape:W.tape=v.tape
 output:W.output=v.output
 size:v.heap.size≤W.heap.size
 block:∀ b,b<v.heap.size→(∀ g,p=some ⟨g,0,none⟩→b≠g)→W.heap[b]? =v.heap[b]?
end
set_option maxHeartbeats 40000000
set_option maxRecDepth 8000
theorem eS {P:Program} {ops:Array Oper} {o:Oper} {a:Act} {w:World} {K:Act→World→Prop} {Q:Exit→Act→World→Prop} {E:Prop}
  (hg:o.guard=none) (d x:Operand) (dT sT:TypeId) (iH:o.op=Op.call {callee:=Callee.builtin Builtin.copy,args:=#[d,x],argTypes:=#[dT,sT]})
  (v u:Value) (hd:a.eval d=v) (hx:a.eval x=u) {v':Value} {w':World} (hr:(Builtin.copy_ #[dT,sT] o.type #[v,u]).run P w=.ok v' w') (hK:K (a.put o.dst v') w'):
  if Region.wanted o (yielded ops a.tmps)=true then Oper.wp P o a w K Q else E:=by
 have hw:Region.wanted o (yielded ops a.tmps)=true:=by simp[Region.wanted,hg]
 rw[if_pos hw];unfold Oper.wp;simp[execOp,iH,resolve,invoke,builtin,hd,hx,hr,Result.andThen];exact hK
theorem gx {W:World} {b:Nat} {cs:Array Value} {t:TypeId} (h:W.heap[b]? =some (.cells cs t (0,0))) (j:Nat):W.frozen? ⟨b,j,none⟩=false:=by simp[World.frozen?,h]
theorem Tryz.Cs:(Tryz.prog.info? 41).map (fun i=>(i.zero,i.size,i.bytes))=some (some (.agg #[.string ByteArray.empty,.string ByteArray.empty,.slice none 0 0]),3,56):=by kernel_rfl
theorem Tryz.lk:Tryz.prog.underlying 23=some (.slice 41):=by kernel_rfl
theorem CY (lo:Nat) (W:World) (p1:Option Addr) (n q:Nat) (xs vs:List Value) (h:W.ownsRow lo 41 3 (.slice p1 n q) n xs) (gc m qc:Nat) (hv:∀ j u,vs[j]? =some u→W.cell? ⟨gc,j,none⟩=some u) (fQ:vs.length=m*3) (fy:∀ u∈vs,u.oneCell'=true) (hm:0<m) (hn:n+m≤1048576) (bR:lo≤W.heap.size):
  Calls Tryz.prog 101 #[.slice p1 n q,.int .i64 (n:Nat),.slice (some ⟨gc,0,none⟩) m qc] W fun e W'=>∃ g' q',e=.returned (.slice (some ⟨g',0,none⟩) (n+m) q')∧W'.ownsRow lo 41 3 (.slice (some ⟨g',0,none⟩) (n+m) q') (n+m) (xs++vs)∧iq p1 W W'∧(p1=some ⟨g',0,none⟩∨W.heap.size≤g'):=by
 have HH:=hid h;have HV:=hid hv;have LS:=hid fQ;have Mj:=hid fy;have lM:=hid bR;have PF:n≤q∧q≤maxLen:=by
  rcases h.2 with⟨e,e'⟩|⟨g,cap,cur,e,_,_,hc,yd,_⟩
  ·cases e;exact⟨zE,zN⟩
  ·cases e;exact⟨hc,yd⟩
 unfold maxLen at PF;obtain⟨yC,BV⟩:=PF;clear h hv fQ fy bR;obtain⟨i1,eO,ei1⟩:=Option.map_eq_some_iff.1 Tryz.Cs;simp only[Prod.mk.injEq]at ei1;obtain⟨dJ,kg,tz⟩:=ei1;have ns:¬ ((m:Int)=0):=by omega
 have wO:(0:Int)≤(n:Int):=by omega
 have hnq:(n:Int)≤(q:Int):=by omega
 cases p1 with
 |none=>
  obtain⟨rfl,rfl⟩:n=0∧q=0:=by
   rcases HH.out.2 with⟨e,e'⟩|⟨g,cap,cur,e,_⟩
   ·cases e;exact⟨e',rfl⟩
   ·cases e
  simp only[Nat.zero_add];go_enter Tryz.func101,Tryz.ntmps101
  go_wp2_with (at_builtin;refine wpList_append_lies _ rfl _ _ 23 rfl lo 41 i1 _ 3 56 Tryz.lk eO dJ kg tz rfl (by decide) _ _ xs rfl HH.out ⟨gc,0,none⟩ m qc vs rfl ?a1x ?a2x ?a3x hm ?a4x ?a5x ?a6x _ rfl ?_)
  case a1x=>exact LS.out
  case a2x=>
   intro j u hj;rw[km,Nat.zero_add];exact HV.out j u hj
  case a3x=>exact Mj.out
  case a4x=>unfold maxLen;omega
  case a5x=>omega
  case a6x=>exact lM.out
  intro g' e1 w1 sk fo jn _;have EV:Hid ((none:Option Addr)=some ⟨g',0,none⟩∨W.heap.size≤g'):=by
   rcases jn with q|q
   ·first|exact Or.inl (by rw[← Option.some.inj q])|cases q
   ·exact Or.inr (by omega)
  have HO:=hid sk;have HG:Hid (iq none W w1):=⟨fo.os,fo.tape,fo.output,fo.size,fun b hb du=>fo.block b hb (fun e=>by cases e)⟩
  clear sk fo jn;go_wp2;go_ret;exact⟨g',e1,rfl,HO.out,HG.out,EV.out⟩
 |some ad=>
  obtain⟨g0,rfl⟩:∃ g0,ad=⟨g0,0,none⟩:=by
   rcases HH.out.2 with⟨e,e'⟩|⟨g,cap,cur,e,_⟩
   ·cases e
   ·cases e;exact⟨g,rfl⟩
  by_cases JI:q=n
  ·subst JI;go_enter Tryz.func101,Tryz.ntmps101
   go_wp2_with (at_builtin;refine wpList_append_lies _ rfl _ _ 23 rfl lo 41 i1 _ 3 56 Tryz.lk eO dJ kg tz rfl (by decide) _ _ xs rfl HH.out ⟨gc,0,none⟩ m qc vs rfl ?a1y ?a2y ?a3y hm ?a4y ?a5y ?a6y _ rfl ?_)
   case a1y=>exact LS.out
   case a2y=>
    intro j u hj;rw[km,Nat.zero_add];exact HV.out j u hj
   case a3y=>exact Mj.out
   case a4y=>unfold maxLen;omega
   case a5y=>omega
   case a6y=>exact lM.out
   intro g' e1 w1 sk fo jn _;have EV:Hid ((some ⟨g0,0,none⟩:Option Addr)=some ⟨g',0,none⟩∨W.heap.size≤g'):=by
    rcases jn with q|q
    ·first|exact Or.inl (by rw[← Option.some.inj q])|cases q
    ·exact Or.inr (by omega)
   have HO:=hid sk;have HG:Hid (iq (some ⟨g0,0,none⟩) W w1):=⟨fo.os,fo.tape,fo.output,fo.size,fun b hb du=>fo.block b hb (fun e=>du g0 rfl (by injection e))⟩
   clear sk fo jn;go_wp2;go_ret;exact⟨g',e1,rfl,HO.out,HG.out,EV.out⟩
  ·have RG:¬ (n=q):=fun e=>JI e.symm;go_enter Tryz.func101,Tryz.ntmps101
   go_wp2_with (at_builtin;refine wpList_append_lies _ rfl _ _ 23 rfl lo 41 i1 _ 3 56 Tryz.lk eO dJ kg tz rfl (by decide) _ _ xs rfl HH.out ⟨gc,0,none⟩ m qc vs rfl ?a1z ?a2z ?a3z hm ?a4z ?a5z ?a6z _ rfl ?_)
   case a1z=>exact LS.out
   case a2z=>
    intro j u hj;rw[km,Nat.zero_add];exact HV.out j u hj
   case a3z=>exact Mj.out
   case a4z=>unfold maxLen;omega
   case a5z=>omega
   case a6z=>exact lM.out
   intro g' e1 w1 sk fo jn _;have EV:Hid ((some ⟨g0,0,none⟩:Option Addr)=some ⟨g',0,none⟩∨W.heap.size≤g'):=by
    rcases jn with q|q
    ·first|exact Or.inl (by rw[← Option.some.inj q])|cases q
    ·exact Or.inr (by omega)
   have HO:=hid sk;have HG:Hid (iq (some ⟨g0,0,none⟩) W w1):=⟨fo.os,fo.tape,fo.output,fo.size,fun b hb du=>fo.block b hb (fun e=>du g0 rfl (by injection e))⟩
   clear sk fo jn;go_wp2;go_ret;exact⟨g',e1,rfl,HO.out,HG.out,EV.out⟩
theorem Ai (lo:Nat) (W:World) (g n q:Nat) (xs vs:List Value) (h:W.ownsRow lo 41 3 (.slice (some ⟨g,0,none⟩) n q) n xs) (ed:∀ u∈xs,u.oneCell'=true) (gc m qc:Nat) (kQ:Array Value) (nT:W.heap[gc]? =some (.cells kQ 41 (0,0))) (hv:∀ j u,vs[j]? =some u→W.cell? ⟨gc,j,none⟩=some u) (fQ:vs.length=m*3) (fy:∀ u∈vs,u.oneCell'=true) (hm:0<m) (du:gc≠g) (i:Nat) (hi:i<n) (hroom:n+m≤q) (hn:n+m≤1048576):
  Calls Tryz.prog 101 #[.slice (some ⟨g,0,none⟩) n q,.int .i64 (i:Nat),.slice (some ⟨gc,0,none⟩) m qc] W fun e W'=>∃ g' q',e=.returned (.slice (some ⟨g',0,none⟩) (n+m) q')∧W'.ownsRow lo 41 3 (.slice (some ⟨g',0,none⟩) (n+m) q') (n+m) (xs.take (i*3)++vs++xs.drop (i*3))∧iq (some ⟨g,0,none⟩) W W'∧(some (⟨g,0,none⟩:Addr)=some ⟨g',0,none⟩∨W.heap.size≤g'):=by
 obtain⟨gD,ep⟩:=h;rcases ep with⟨e,_⟩|⟨g',cap,cur,e,bR,hg,yg,yd,iE,wJ⟩
 ·cases e
 cases e
 obtain⟨i1,eO,ei1⟩:=Option.map_eq_some_iff.1 Tryz.Cs;simp only[Prod.mk.injEq]at ei1;obtain⟨dJ,kg,tz⟩:=ei1;have mP:(Tryz.prog.info? 41).map (·.size)=some 3:=by rw[eO];simp[kg]
 unfold maxLen at yd;have ns:¬ ((m:Int)=0):=by omega
 have gH:¬ ((i:Int)=(n:Int)):=by omega
 have Br:¬ ((q:Int)<(n:Int)+(m:Int)):=by omega
 have gF:(0:Int)≤(i:Int):=by omega
 have gG:(i:Int)≤(n:Int):=by omega
 have bJ:(0:Int)≤(i:Int)+(m:Int):=by omega
 have R1:((i:Int)+(m:Int)).toNat=i+m:=by omega
 have Sc:((n:Int)+(m:Int)).toNat=n+m:=by omega
 have eD:¬ (q=i+m):=by omega
 have eP:(i:Int)≤(n:Int)+(m:Int):=by omega
 have yF:¬ (q=i):=by omega
 have oz:(i:Int)+(m:Int)≤(n:Int)+(m:Int):=by omega
 have BG:(0:Int)≤(n:Int)+(m:Int):=by omega
 have OJ:(n:Int)+(m:Int)≤(q:Int):=by omega
 have mixed:Tryz.prog.follows .mixedOrders=true:=by kernel_rfl
 have qq:IntKind.i64.wrap ((i:Int)+(m:Int))=(i:Int)+(m:Int):=fI _ (by omega) (by omega);have gI:IntKind.i64.wrap ((n:Int)+(m:Int))=(n:Int)+(m:Int):=fI _ (by omega) (by omega);have kU:(xs.drop (i*3)).length=(n - i)*3:=by rw[List.length_drop,gD,Nat.sub_mul]
 have hmul:n*3≤q*3:=Nat.mul_le_mul_right 3 yg;have p6:∀ j u,xs[j]? =some u→W.cell? ⟨g,j,none⟩=some u:=fun j u hj=>by
  rw[← wJ,List.getElem?_take]at hj;simp only[World.cell?,hg];split at hj
  ·simpa using hj
  ·cases hj
 obtain⟨bw,eZ⟩:∃ bw,bw=seg cur ((i+m)*3) (xs.drop (i*3)):=⟨_,rfl⟩
 obtain⟨cg,fb⟩:∃ cg,cg=seg bw (i*3) vs:=⟨_,rfl⟩
 have gC:(i+m)*3+(xs.drop (i*3)).length≤cur.size:=by rw[kU,iE];omega
 have kT:bw.size=cur.size:=by rw[eZ];exact fH gC
 have gB:i*3+vs.length≤bw.size:=by rw[fQ,kT,iE];omega
 have qo:cg.size=cur.size:=by rw[fb,fH gB,kT]
 have Mh:∀ ty dc sc,(Builtin.copy_ #[23,23] ty #[.slice (some ⟨g,(i+m)*3,none⟩) (n+m - (i+m)) dc,.slice (some ⟨g,i*3,none⟩) (n+m - i) sc]).run Tryz.prog W.drew=.ok (goInt (Nat.min (n+m - i) (n+m - (i+m)))) (W.drew.setRow g bw):=fun ty dc sc=>by
  rw[eZ];refine cK W.drew _ _ ty 41 3 g ((i+m)*3) (n+m - (i+m)) dc ⟨g,i*3,none⟩ (n+m - i) sc cur 41 (xs.drop (i*3)) Tryz.lk mP hg ?_ (fun j u hj=> ?_) gC (fun u hu=>ed u (List.mem_of_mem_drop hu))
  ·rw[kU];congr 1;simp only[Nat.min_def];split<;>omega
  ·rw[km];exact p6 _ u (by rwa [List.getElem?_drop]at hj)
 have oH:(W.drew.setRow g bw).heap[g]? =some (.cells bw 41 (0,0)):=setRow_heap W.drew g cur bw 41 (0,0) hg;have Lu:∀ ty dc,(Builtin.copy_ #[23,23] ty #[.slice (some ⟨g,i*3,none⟩) (n+m - i) dc,.slice (some ⟨gc,0,none⟩) m qc]).run Tryz.prog (W.drew.setRow g bw)=.ok (goInt (Nat.min m (n+m - i))) ((W.drew.setRow g bw).setRow g cg):=fun ty dc=>by
  rw[fb];refine cK _ _ _ ty 41 3 g (i*3) (n+m - i) dc ⟨gc,0,none⟩ m qc bw 41 vs Tryz.lk mP oH ?_ (fun j u hj=> ?_) gB fy
  ·rw[fQ];congr 1;simp only[Nat.min_def];split<;>omega
  ·rw[km,Nat.zero_add];have:=hv j u hj;unfold World.cell? at this ⊢;rw[setRow_other W.drew g gc bw du];exact this
 have Q8:∀ lb cb,(callFunc 119 #[.slice (some ⟨gc,0,none⟩) m qc,.slice (some ⟨g,(i+m)*3,none⟩) lb cb]).run Tryz.prog W=.ok (.value (.bool false)) W:=fun lb cb=>by
  rw[run_callFunc_extern Tryz.func119 (by kernel_rfl) (by kernel_rfl) (by kernel_rfl) (e:=Extern.SlicesOverlaps.overlaps #[23,23] #[4]) (by kernel_rfl),
   Lib.run_overlaps_apart W 23 4 41 Tryz.lk 3 (fun w=>by simp[sizeOf,typeInfo,eO,kg]) ⟨gc,0,none⟩ ⟨g,(i+m)*3,none⟩ m qc lb cb du 41 41 kQ.size cur.size (by simp[World.shape?,nT]) (by simp[World.shape?,hg]) (by omega) (gx nT 0) (gx nT _)]
  rfl
 have cj:Hid (((W.drew.setRow g bw).setRow g cg).ownsRow lo 41 3 (.slice (some ⟨g,0,none⟩) (n+m) q) (n+m) (xs.take (i*3)++vs++xs.drop (i*3))):=by
  refine⟨?_,.inr ⟨g,q,cg,rfl,bR,setRow_heap _ g bw cg 41 (0,0) oH,hroom,by unfold maxLen;exact yd,by rw[qo,iE], ?_⟩⟩
  ·simp only[List.length_append,List.length_take,kU,fQ,gD];have:i*3≤n*3:=Nat.mul_le_mul_right 3 (by omega);omega
  ·have:=rV (l:=cur.toList) (i:=i*3) (n:=n*3) (m:=m*3) wJ gD fQ (by omega) (by rw[Array.length_toList,iE];omega) cur rfl;rw[fb,eZ,Nat.add_mul,Nat.add_mul];exact this
 have p5:Hid (iq (some ⟨g,0,none⟩) W ((W.drew.setRow g bw).setRow g cg)):=⟨rfl,rfl,rfl,by rw[size_setRow,size_setRow];exact zE,fun b _ hb=>by
  rw[setRow_other _ g b cg (hb g rfl),setRow_other _ g b bw (hb g rfl)];rfl⟩
 clear eZ fb oH p6 hg nT hv fQ fy ed wJ gD kU gC gB kT qo iE hmul;go_enter Tryz.func101,Tryz.ntmps101
 go_wp2_with (simp only[Q8])
 go_region_law_o (refine eS rfl _ _ 23 23 rfl _ _ (by simp[Act.eval,Act.put]) (by simp[Act.eval,Act.put]) (Mh _ _ _) ?_)
 go_wp2_with (at_builtin;refine wpList_copy_runJ _ rfl _ _ 23 23 rfl _ _ rfl rfl (Lu _ _) ?_)
 go_ret;exact⟨g,q,rfl,cj.out,p5.out,Or.inl rfl⟩
theorem AR (lo:Nat) (W:World) (g n q:Nat) (xs vs:List Value) (h:W.ownsRow lo 41 3 (.slice (some ⟨g,0,none⟩) n q) n xs) (ed:∀ u∈xs,u.oneCell'=true) (gc m qc:Nat) (kQ:Array Value) (nT:W.heap[gc]? =some (.cells kQ 41 (0,0))) (hv:∀ j u,vs[j]? =some u→W.cell? ⟨gc,j,none⟩=some u) (fQ:vs.length=m*3) (fy:∀ u∈vs,u.oneCell'=true) (hm:0<m) (i:Nat) (hi:i<n) (hroom:q<n+m) (hlow:lo≤W.heap.size) (hn:n+m≤1048576):
  Calls Tryz.prog 101 #[.slice (some ⟨g,0,none⟩) n q,.int .i64 (i:Nat),.slice (some ⟨gc,0,none⟩) m qc] W fun e W'=>∃ g' q',e=.returned (.slice (some ⟨g',0,none⟩) (n+m) q')∧W'.ownsRow lo 41 3 (.slice (some ⟨g',0,none⟩) (n+m) q') (n+m) (xs.take (i*3)++vs++xs.drop (i*3))∧iq (some ⟨g,0,none⟩) W W'∧(some (⟨g,0,none⟩:Addr)=some ⟨g',0,none⟩∨W.heap.size≤g'):=by
 obtain⟨gD,ep⟩:=h;rcases ep with⟨e,_⟩|⟨g',cap,cur,e,bR,hg,yg,yd,iE,wJ⟩
 ·cases e
 cases e
 obtain⟨i1,eO,ei1⟩:=Option.map_eq_some_iff.1 Tryz.Cs;simp only[Prod.mk.injEq]at ei1;obtain⟨dJ,kg,tz⟩:=ei1;have mP:(Tryz.prog.info? 41).map (·.size)=some 3:=by rw[eO];simp[kg]
 unfold maxLen at yd;have mixed:Tryz.prog.follows .mixedOrders=true:=by kernel_rfl
 have ns:¬ ((m:Int)=0):=by omega
 have gH:¬ ((i:Int)=(n:Int)):=by omega
 have Br:(q:Int)<(n:Int)+(m:Int):=by omega
 have gF:(0:Int)≤(i:Int):=by omega
 have gG:(i:Int)≤(n:Int):=by omega
 have bJ:(0:Int)≤(i:Int)+(m:Int):=by omega
 have R1:((i:Int)+(m:Int)).toNat=i+m:=by omega
 have qq:IntKind.i64.wrap ((i:Int)+(m:Int))=(i:Int)+(m:Int):=fI _ (by omega) (by omega);have gI:IntKind.i64.wrap ((n:Int)+(m:Int))=(n:Int)+(m:Int):=fI _ (by omega) (by omega);have gh:IntKind.i64.wrap ((n:Int)+(m:Int) - (i:Int))=(n:Int)+(m:Int) - (i:Int):=fI _ (by omega) (by omega);have oE:(n:Int)+(m:Int) - (i:Int)=((n+m - i:Nat):Int):=by omega
 have L5:i+(n+m - i)=n+m:=by omega
 have hiq:(i:Int)≤(q:Int):=by omega
 have kU:(xs.drop (i*3)).length=(n - i)*3:=by rw[List.length_drop,gD,Nat.sub_mul]
 have Ri:i*3≤n*3:=Nat.mul_le_mul_right 3 (by omega);have qK:(xs.take (i*3)).length=i*3:=by rw[List.length_take,gD];omega
 have p6:∀ j u,xs[j]? =some u→W.cell? ⟨g,j,none⟩=some u:=fun j u hj=>by
  rw[← wJ,List.getElem?_take]at hj;simp only[World.cell?,hg];split at hj
  ·simpa using hj
  ·cases hj
 have tP:g<W.heap.size:=dN hg;have LZ:gc<W.heap.size:=dN nT;have hold:(Builtin.firstCells i1.size i (.slice (some ⟨g,0,none⟩) i q)).run Tryz.prog W.drew=.ok (xs.take (i*3)).toArray W.drew:=by
  rw[kg];refine run_firstCells_some W.drew 3 i ⟨g,0,none⟩ i q (xs.take (i*3)) qK (fun j v hj=> ?_);rw[km,Nat.zero_add];rw[List.getElem?_take]at hj;split at hj
  ·exact p6 j v hj
  ·cases hj
 obtain⟨Z,hZ⟩:∃ Z:Value,Z=(.agg #[.string ByteArray.empty,.string ByteArray.empty,.slice none 0 0]):=⟨_,rfl⟩
 rw[← hZ]at dJ;have OL:Z.cells.size=3:=by rw[hZ];rfl
 clear hZ;have EK:∀ ty,(Builtin.append_ #[23,3] ty #[.slice (some ⟨g,0,none⟩) i q,.int .i64 ((n:Int)+(m:Int) - (i:Int))]).run Tryz.prog W=
   .ok (.slice (some ⟨W.heap.size,0,none⟩) (n+m) (grownCap W (n+m) q 41)) (W.drew.alloc (.cells ((xs.take (i*3)).toArray++Builtin.zeroCells Z.cells (n+m - i)++Builtin.zeroCells Z.cells (grownCap W (n+m) q 41 - (n+m))) 41)):=fun ty=>by
  have hmul:(n+m)*56≤1048576*56:=Nat.mul_le_mul_right 56 hn;have Pc:(n+m - i)*56≤1048576*56:=Nat.mul_le_mul_right 56 (by omega);have h:=Lib.run_append_grow_zeros W 23 3 ty 41 i1 Z .i64 .i64 Tryz.lk (by kernel_rfl) eO dJ (some ⟨g,0,none⟩) i q (xs.take (i*3)) hold (n+m - i) (by omega) (by omega) (by omega) (by omega) (by rw[tz];omega) (by rw[tz,L5];exact growslice_fits hroom (by omega));rw[L5]at h;rw[oE];exact h
 have K9:=grownCap_ge W (n+m) q 41;have tG:=grownCap_le_maxLen W (n+m) q 41 (by unfold maxLen;omega);obtain⟨G,hG⟩:∃ G,G=grownCap W (n+m) q 41:=⟨_,rfl⟩
 rw[← hG]at EK K9 tG;clear hG;have Fk:=tG;unfold maxLen at Fk;obtain⟨ROW,tD⟩:∃ ROW:Array Value,ROW=(xs.take (i*3)).toArray++Builtin.zeroCells Z.cells (n+m - i)++Builtin.zeroCells Z.cells (G - (n+m)):=⟨_,rfl⟩
 rw[← tD]at EK;have H8:ROW.size=G*3:=by
  rw[tD,Array.size_append,Array.size_append,size_zeroCells,size_zeroCells,OL,List.size_toArray,qK];rw[← Nat.add_mul,← Nat.add_mul];congr 1;omega
 have O6:ROW.toList=xs.take (i*3)++((Builtin.zeroCells Z.cells (n+m - i)).toList++(Builtin.zeroCells Z.cells (G - (n+m))).toList):=by
  rw[tD];simp
 clear tD;obtain⟨bw,eZ⟩:∃ bw,bw=seg ROW (i*3) vs:=⟨_,rfl⟩
 obtain⟨cg,fb⟩:∃ cg,cg=seg bw ((i+m)*3) (xs.drop (i*3)):=⟨_,rfl⟩
 have hG7:(n+m)*3≤G*3:=Nat.mul_le_mul_right 3 K9;have gC:i*3+vs.length≤ROW.size:=by rw[fQ,H8];omega
 have kT:bw.size=ROW.size:=by rw[eZ];exact fH gC
 have gB:(i+m)*3+(xs.drop (i*3)).length≤bw.size:=by rw[kU,kT,H8];omega
 have qo:cg.size=ROW.size:=by rw[fb,fH gB,kT]
 obtain⟨V,hV⟩:∃ V,V=W.drew.alloc (.cells ROW 41):=⟨_,rfl⟩
 have KU:V.heap[W.heap.size]? =some (.cells ROW 41 (0,0)):=by rw[hV];exact heap_alloc_new W.drew _
 have Fp:Bel W V:=by rw[hV];exact ae (Below.drew zR) _
 have LM:∀ (V':World),V'.heap=V.heap→∀ ty dc,(Builtin.copy_ #[23,23] ty #[.slice (some ⟨W.heap.size,i*3,none⟩) (n+m - i) dc,.slice (some ⟨gc,0,none⟩) m qc]).run Tryz.prog V'=.ok (goInt (Nat.min m (n+m - i))) (V'.setRow W.heap.size bw):=fun V' qm ty dc=>by
  rw[eZ];refine cK V' _ _ ty 41 3 W.heap.size (i*3) (n+m - i) dc ⟨gc,0,none⟩ m qc ROW 41 vs Tryz.lk mP (by rw[qm];exact KU) ?_ (fun j u hj=> ?_) gC fy
  ·rw[fQ];congr 1;simp only[Nat.min_def];split<;>omega
  ·rw[km,Nat.zero_add];have:=hv j u hj;unfold World.cell? at this ⊢;rw[qm,Fp.block gc LZ];exact this
 have oH:∀ V':World,V'.heap=V.heap→(V'.setRow W.heap.size bw).heap[W.heap.size]? =some (.cells bw 41 (0,0)):=fun V' qm=>setRow_heap V' W.heap.size ROW bw 41 (0,0) (by rw[qm];exact KU);have LA:∀ (V' V'':World),V'.heap=V.heap→V''.heap=(V'.setRow W.heap.size bw).heap→∀ ty dc sc,(Builtin.copy_ #[23,23] ty #[.slice (some ⟨W.heap.size,(i+m)*3,none⟩) (n+m - (i+m)) dc,.slice (some ⟨g,i*3,none⟩) (n - i) sc]).run Tryz.prog V''=.ok (goInt (Nat.min (n - i) (n+m - (i+m)))) (V''.setRow W.heap.size cg):=fun V' V'' qm mD ty dc sc=>by
  rw[fb];refine cK V'' _ _ ty 41 3 W.heap.size ((i+m)*3) (n+m - (i+m)) dc ⟨g,i*3,none⟩ (n - i) sc bw 41 (xs.drop (i*3)) Tryz.lk mP (by rw[mD];exact oH V' qm) ?_ (fun j u hj=> ?_) gB (fun u hu=>ed u (List.mem_of_mem_drop hu))
  ·rw[kU];congr 1;simp only[Nat.min_def];split<;>omega
  ·rw[km];have:=p6 (i*3+j) u (by rwa [List.getElem?_drop]at hj);unfold World.cell? at this ⊢;rw[mD,setRow_other V' W.heap.size g bw (by omega),qm,Fp.block g tP];exact this
 have cj:Hid (∀ (V' V'':World),V'.heap=V.heap→V''.heap=(V'.setRow W.heap.size bw).heap→V'.os=W.os→V'.tape=W.tape→V'.output=W.output→V''.os=V'.os→V''.tape=V'.tape→V''.output=V'.output→(V''.setRow W.heap.size cg).ownsRow lo 41 3 (.slice (some ⟨W.heap.size,0,none⟩) (n+m) G) (n+m) (xs.take (i*3)++vs++xs.drop (i*3))∧iq (some ⟨g,0,none⟩) W (V''.setRow W.heap.size cg)):=by
  intro V' V'' qm mD o1 o2 o3 r1 r2 r3;refine⟨⟨?_,.inr ⟨W.heap.size,G,cg,rfl,hlow,setRow_heap _ _ bw cg 41 (0,0) (by rw[mD];exact oH V' qm),K9,tG,by rw[qo,H8], ?_⟩⟩,⟨r1.trans o1,r2.trans o2,r3.trans o3, ?_,fun b hb _=> ?_⟩⟩
  ·simp only[List.length_append,qK,kU,fQ];omega
  ·have:=vE (cs:=xs) (i:=i*3) (n:=n*3) (m:=m*3) gD fQ (by omega) ROW O6;rw[fb,eZ,Nat.add_mul,Nat.add_mul];exact this
  ·rw[size_setRow,mD,size_setRow,qm];exact Fp.size
  ·rw[setRow_other _ _ b cg (by omega),mD,setRow_other _ _ b bw (by omega),qm,Fp.block b hb]
 have hGi:¬ (G=i):=by omega
 have Rk:¬ (G=i+m):=by omega
 have hqi:¬ (q=i):=by omega
 have eP:(i:Int)≤(n:Int)+(m:Int):=by omega
 have hE:((W.alloc (.cells ROW 41)).drew).heap=V.heap:=by rw[hV];rfl
 have hF:(((W.alloc (.cells ROW 41)).drew.setRow W.heap.size bw).drew).heap=((W.alloc (.cells ROW 41)).drew.setRow W.heap.size bw).heap:=rfl;subst hV;clear eZ fb oH p6 hg nT hv fQ fy ed wJ gD kU gC gB kT qo iE O6 H8 hold oE L5 qK KU Fp dJ OL tG;go_enter Tryz.func101,Tryz.ntmps101
 go_wp2_with (first
  |(at_builtin;refine Lib.wpList_append_run _ rfl _ _ _ _ rfl _ _ rfl rfl _ _ (EK _) ?_)
  |(at_builtin;refine wpList_copy_runJ _ rfl _ _ 23 23 rfl _ _ rfl rfl (LM _ hE _ _) ?_))
 go_region_law_o (refine eS rfl _ _ 23 23 rfl (.slice (some ⟨W.heap.size,(i+m)*3,none⟩) (n+m - (i+m)) (G - (i+m))) (.slice (some ⟨g,i*3,none⟩) (n - i) (q - i)) (by simp[Act.eval,Act.put]) (by simp[Act.eval,Act.put]) (LA _ _ hE hF 3 (G - (i+m)) (q - i)) ?_)
 go_wp2;go_ret;obtain⟨r1,r2⟩:=cj.out _ _ hE hF rfl rfl rfl rfl rfl rfl;exact⟨W.heap.size,G,rfl,r1,r2,Or.inr zE⟩
theorem Ka (lo:Nat) (W:World) (p1:Option Addr) (n q:Nat) (xs vs:List Value) (m:Nat) (h:W.ownsRow lo 41 3 (.slice p1 n q) n xs) (lc:Nat) (vc:Value) (ed:∀ u∈xs,u.oneCell'=true) (fy:∀ u∈vs,u.oneCell'=true) (hc:W.ownsRow lc 41 3 vc m vs) (yw:0<m) (du:∀ g,p1=some ⟨g,0,none⟩→g<lc) (i:Nat) (hi:i≤n) (hn:n+m≤1048576) (bR:lo≤W.heap.size):
  Calls Tryz.prog 101 #[.slice p1 n q,.int .i64 (i:Nat),vc] W fun e W'=>∃ g' q',e=.returned (.slice (some ⟨g',0,none⟩) (n+m) q')∧W'.ownsRow lo 41 3 (.slice (some ⟨g',0,none⟩) (n+m) q') (n+m) (xs.take (i*3)++vs++xs.drop (i*3))∧iq p1 W W'∧(p1=some ⟨g',0,none⟩∨W.heap.size≤g'):=by
 have fQ:=hc.1;rcases hc.2 with⟨_,e⟩|⟨gc,qc,kQ,rfl,hlc,nT,_⟩
 ·omega
 have hv:∀ j u,vs[j]? =some u→W.cell? ⟨gc,j,none⟩=some u:=by
  obtain⟨g2,cg,e2,_,_,_,p6⟩:=vQ hc yw;injection e2 with e2
  injection e2 with e2 _ _
  subst e2;exact p6
 by_cases gG:i=n
 ·subst gG;refine(CY lo W p1 i q _ _ h gc m qc hv (fQ) fy yw hn bR).mono ?_;rintro e W' ⟨g',q',rfl,h1,h2,h3⟩;refine⟨g',q',rfl, ?_,h2,h3⟩;have hx:=h.1;rw[List.take_of_length_le (by omega),List.drop_of_length_le (by omega),List.append_nil];exact h1
 ·rcases h.2 with⟨_,e⟩|⟨g,cap,cur,e,_⟩
  ·omega
  cases e
  by_cases hroom:n+m≤q
  ·exact Ai lo W g n q _ _ h ed gc m qc kQ nT hv (fQ) fy yw (by have:=du g rfl;omega) i (by omega) hroom hn
  ·exact AR lo W g n q _ _ h ed gc m qc kQ nT hv (fQ) fy yw i (by omega) (by omega) bR hn
theorem Tryz.Eg:(Tryz.prog.info? 46).map (fun i=>(i.zero,i.size,i.bytes))=some (some (.agg #[.string ByteArray.empty,.slice none 0 0]),2,40):=by kernel_rfl
theorem Tryz.lh:Tryz.prog.underlying 39=some (.slice 46):=by kernel_rfl
theorem DG (lo:Nat) (W:World) (p1:Option Addr) (n q:Nat) (xs vs:List Value) (h:W.ownsRow lo 46 2 (.slice p1 n q) n xs) (gc m qc:Nat) (hv:∀ j u,vs[j]? =some u→W.cell? ⟨gc,j,none⟩=some u) (fQ:vs.length=m*2) (fy:∀ u∈vs,u.oneCell'=true) (hm:0<m) (hn:n+m≤1048576) (bR:lo≤W.heap.size):
  Calls Tryz.prog 104 #[.slice p1 n q,.int .i64 (n:Nat),.slice (some ⟨gc,0,none⟩) m qc] W fun e W'=>∃ g' q',e=.returned (.slice (some ⟨g',0,none⟩) (n+m) q')∧W'.ownsRow lo 46 2 (.slice (some ⟨g',0,none⟩) (n+m) q') (n+m) (xs++vs)∧iq p1 W W'∧(p1=some ⟨g',0,none⟩∨W.heap.size≤g'):=by
 have HH:=hid h;have HV:=hid hv;have LS:=hid fQ;have Mj:=hid fy;have lM:=hid bR;have PF:n≤q∧q≤maxLen:=by
  rcases h.2 with⟨e,e'⟩|⟨g,cap,cur,e,_,_,hc,yd,_⟩
  ·cases e;exact⟨zE,zN⟩
  ·cases e;exact⟨hc,yd⟩
 unfold maxLen at PF;obtain⟨yC,BV⟩:=PF;clear h hv fQ fy bR;obtain⟨i1,eO,ei1⟩:=Option.map_eq_some_iff.1 Tryz.Eg;simp only[Prod.mk.injEq]at ei1;obtain⟨dJ,kg,tz⟩:=ei1;have ns:¬ ((m:Int)=0):=by omega
 have wO:(0:Int)≤(n:Int):=by omega
 have hnq:(n:Int)≤(q:Int):=by omega
 cases p1 with
 |none=>
  obtain⟨rfl,rfl⟩:n=0∧q=0:=by
   rcases HH.out.2 with⟨e,e'⟩|⟨g,cap,cur,e,_⟩
   ·cases e;exact⟨e',rfl⟩
   ·cases e
  simp only[Nat.zero_add];go_enter Tryz.func104,Tryz.ntmps104
  go_wp2_with (at_builtin;refine wpList_append_lies _ rfl _ _ 39 rfl lo 46 i1 _ 2 40 Tryz.lh eO dJ kg tz rfl (by decide) _ _ xs rfl HH.out ⟨gc,0,none⟩ m qc vs rfl ?a1x ?a2x ?a3x hm ?a4x ?a5x ?a6x _ rfl ?_)
  case a1x=>exact LS.out
  case a2x=>
   intro j u hj;rw[km,Nat.zero_add];exact HV.out j u hj
  case a3x=>exact Mj.out
  case a4x=>unfold maxLen;omega
  case a5x=>omega
  case a6x=>exact lM.out
  intro g' e1 w1 sk fo jn _;have EV:Hid ((none:Option Addr)=some ⟨g',0,none⟩∨W.heap.size≤g'):=by
   rcases jn with q|q
   ·first|exact Or.inl (by rw[← Option.some.inj q])|cases q
   ·exact Or.inr (by omega)
  have HO:=hid sk;have HG:Hid (iq none W w1):=⟨fo.os,fo.tape,fo.output,fo.size,fun b hb du=>fo.block b hb (fun e=>by cases e)⟩
  clear sk fo jn;go_wp2;go_ret;exact⟨g',e1,rfl,HO.out,HG.out,EV.out⟩
 |some ad=>
  obtain⟨g0,rfl⟩:∃ g0,ad=⟨g0,0,none⟩:=by
   rcases HH.out.2 with⟨e,e'⟩|⟨g,cap,cur,e,_⟩
   ·cases e
   ·cases e;exact⟨g,rfl⟩
  by_cases JI:q=n
  ·subst JI;go_enter Tryz.func104,Tryz.ntmps104
   go_wp2_with (at_builtin;refine wpList_append_lies _ rfl _ _ 39 rfl lo 46 i1 _ 2 40 Tryz.lh eO dJ kg tz rfl (by decide) _ _ xs rfl HH.out ⟨gc,0,none⟩ m qc vs rfl ?a1y ?a2y ?a3y hm ?a4y ?a5y ?a6y _ rfl ?_)
   case a1y=>exact LS.out
   case a2y=>
    intro j u hj;rw[km,Nat.zero_add];exact HV.out j u hj
   case a3y=>exact Mj.out
   case a4y=>unfold maxLen;omega
   case a5y=>omega
   case a6y=>exact lM.out
   intro g' e1 w1 sk fo jn _;have EV:Hid ((some ⟨g0,0,none⟩:Option Addr)=some ⟨g',0,none⟩∨W.heap.size≤g'):=by
    rcases jn with q|q
    ·first|exact Or.inl (by rw[← Option.some.inj q])|cases q
    ·exact Or.inr (by omega)
   have HO:=hid sk;have HG:Hid (iq (some ⟨g0,0,none⟩) W w1):=⟨fo.os,fo.tape,fo.output,fo.size,fun b hb du=>fo.block b hb (fun e=>du g0 rfl (by injection e))⟩
   clear sk fo jn;go_wp2;go_ret;exact⟨g',e1,rfl,HO.out,HG.out,EV.out⟩
  ·have RG:¬ (n=q):=fun e=>JI e.symm;go_enter Tryz.func104,Tryz.ntmps104
   go_wp2_with (at_builtin;refine wpList_append_lies _ rfl _ _ 39 rfl lo 46 i1 _ 2 40 Tryz.lh eO dJ kg tz rfl (by decide) _ _ xs rfl HH.out ⟨gc,0,none⟩ m qc vs rfl ?a1z ?a2z ?a3z hm ?a4z ?a5z ?a6z _ rfl ?_)
   case a1z=>exact LS.out
   case a2z=>
    intro j u hj;rw[km,Nat.zero_add];exact HV.out j u hj
   case a3z=>exact Mj.out
   case a4z=>unfold maxLen;omega
   case a5z=>omega
   case a6z=>exact lM.out
   intro g' e1 w1 sk fo jn _;have EV:Hid ((some ⟨g0,0,none⟩:Option Addr)=some ⟨g',0,none⟩∨W.heap.size≤g'):=by
    rcases jn with q|q
    ·first|exact Or.inl (by rw[← Option.some.inj q])|cases q
    ·exact Or.inr (by omega)
   have HO:=hid sk;have HG:Hid (iq (some ⟨g0,0,none⟩) W w1):=⟨fo.os,fo.tape,fo.output,fo.size,fun b hb du=>fo.block b hb (fun e=>du g0 rfl (by injection e))⟩
   clear sk fo jn;go_wp2;go_ret;exact⟨g',e1,rfl,HO.out,HG.out,EV.out⟩
theorem Aq (lo:Nat) (W:World) (g n q:Nat) (xs vs:List Value) (h:W.ownsRow lo 46 2 (.slice (some ⟨g,0,none⟩) n q) n xs) (ed:∀ u∈xs,u.oneCell'=true) (gc m qc:Nat) (kQ:Array Value) (nT:W.heap[gc]? =some (.cells kQ 46 (0,0))) (hv:∀ j u,vs[j]? =some u→W.cell? ⟨gc,j,none⟩=some u) (fQ:vs.length=m*2) (fy:∀ u∈vs,u.oneCell'=true) (hm:0<m) (du:gc≠g) (i:Nat) (hi:i<n) (hroom:n+m≤q) (hn:n+m≤1048576):
  Calls Tryz.prog 104 #[.slice (some ⟨g,0,none⟩) n q,.int .i64 (i:Nat),.slice (some ⟨gc,0,none⟩) m qc] W fun e W'=>∃ g' q',e=.returned (.slice (some ⟨g',0,none⟩) (n+m) q')∧W'.ownsRow lo 46 2 (.slice (some ⟨g',0,none⟩) (n+m) q') (n+m) (xs.take (i*2)++vs++xs.drop (i*2))∧iq (some ⟨g,0,none⟩) W W'∧(some (⟨g,0,none⟩:Addr)=some ⟨g',0,none⟩∨W.heap.size≤g'):=by
 obtain⟨gD,ep⟩:=h;rcases ep with⟨e,_⟩|⟨g',cap,cur,e,bR,hg,yg,yd,iE,wJ⟩
 ·cases e
 cases e
 obtain⟨i1,eO,ei1⟩:=Option.map_eq_some_iff.1 Tryz.Eg;simp only[Prod.mk.injEq]at ei1;obtain⟨dJ,kg,tz⟩:=ei1;have mP:(Tryz.prog.info? 46).map (·.size)=some 2:=by rw[eO];simp[kg]
 unfold maxLen at yd;have ns:¬ ((m:Int)=0):=by omega
 have gH:¬ ((i:Int)=(n:Int)):=by omega
 have Br:¬ ((q:Int)<(n:Int)+(m:Int)):=by omega
 have gF:(0:Int)≤(i:Int):=by omega
 have gG:(i:Int)≤(n:Int):=by omega
 have bJ:(0:Int)≤(i:Int)+(m:Int):=by omega
 have R1:((i:Int)+(m:Int)).toNat=i+m:=by omega
 have Sc:((n:Int)+(m:Int)).toNat=n+m:=by omega
 have eD:¬ (q=i+m):=by omega
 have eP:(i:Int)≤(n:Int)+(m:Int):=by omega
 have yF:¬ (q=i):=by omega
 have oz:(i:Int)+(m:Int)≤(n:Int)+(m:Int):=by omega
 have BG:(0:Int)≤(n:Int)+(m:Int):=by omega
 have OJ:(n:Int)+(m:Int)≤(q:Int):=by omega
 have mixed:Tryz.prog.follows .mixedOrders=true:=by kernel_rfl
 have qq:IntKind.i64.wrap ((i:Int)+(m:Int))=(i:Int)+(m:Int):=fI _ (by omega) (by omega);have gI:IntKind.i64.wrap ((n:Int)+(m:Int))=(n:Int)+(m:Int):=fI _ (by omega) (by omega);have kU:(xs.drop (i*2)).length=(n - i)*2:=by rw[List.length_drop,gD,Nat.sub_mul]
 have hmul:n*2≤q*2:=Nat.mul_le_mul_right 2 yg;have p6:∀ j u,xs[j]? =some u→W.cell? ⟨g,j,none⟩=some u:=fun j u hj=>by
  rw[← wJ,List.getElem?_take]at hj;simp only[World.cell?,hg];split at hj
  ·simpa using hj
  ·cases hj
 obtain⟨bw,eZ⟩:∃ bw,bw=seg cur ((i+m)*2) (xs.drop (i*2)):=⟨_,rfl⟩
 obtain⟨cg,fb⟩:∃ cg,cg=seg bw (i*2) vs:=⟨_,rfl⟩
 have gC:(i+m)*2+(xs.drop (i*2)).length≤cur.size:=by rw[kU,iE];omega
 have kT:bw.size=cur.size:=by rw[eZ];exact fH gC
 have gB:i*2+vs.length≤bw.size:=by rw[fQ,kT,iE];omega
 have qo:cg.size=cur.size:=by rw[fb,fH gB,kT]
 have Mh:∀ ty dc sc,(Builtin.copy_ #[39,39] ty #[.slice (some ⟨g,(i+m)*2,none⟩) (n+m - (i+m)) dc,.slice (some ⟨g,i*2,none⟩) (n+m - i) sc]).run Tryz.prog W.drew=.ok (goInt (Nat.min (n+m - i) (n+m - (i+m)))) (W.drew.setRow g bw):=fun ty dc sc=>by
  rw[eZ];refine cK W.drew _ _ ty 46 2 g ((i+m)*2) (n+m - (i+m)) dc ⟨g,i*2,none⟩ (n+m - i) sc cur 46 (xs.drop (i*2)) Tryz.lh mP hg ?_ (fun j u hj=> ?_) gC (fun u hu=>ed u (List.mem_of_mem_drop hu))
  ·rw[kU];congr 1;simp only[Nat.min_def];split<;>omega
  ·rw[km];exact p6 _ u (by rwa [List.getElem?_drop]at hj)
 have oH:(W.drew.setRow g bw).heap[g]? =some (.cells bw 46 (0,0)):=setRow_heap W.drew g cur bw 46 (0,0) hg;have Lu:∀ ty dc,(Builtin.copy_ #[39,39] ty #[.slice (some ⟨g,i*2,none⟩) (n+m - i) dc,.slice (some ⟨gc,0,none⟩) m qc]).run Tryz.prog (W.drew.setRow g bw)=.ok (goInt (Nat.min m (n+m - i))) ((W.drew.setRow g bw).setRow g cg):=fun ty dc=>by
  rw[fb];refine cK _ _ _ ty 46 2 g (i*2) (n+m - i) dc ⟨gc,0,none⟩ m qc bw 46 vs Tryz.lh mP oH ?_ (fun j u hj=> ?_) gB fy
  ·rw[fQ];congr 1;simp only[Nat.min_def];split<;>omega
  ·rw[km,Nat.zero_add];have:=hv j u hj;unfold World.cell? at this ⊢;rw[setRow_other W.drew g gc bw du];exact this
 have Q8:∀ lb cb,(callFunc 121 #[.slice (some ⟨gc,0,none⟩) m qc,.slice (some ⟨g,(i+m)*2,none⟩) lb cb]).run Tryz.prog W=.ok (.value (.bool false)) W:=fun lb cb=>by
  rw[run_callFunc_extern Tryz.func121 (by kernel_rfl) (by kernel_rfl) (by kernel_rfl) (e:=Extern.SlicesOverlaps.overlaps #[39,39] #[4]) (by kernel_rfl),
   Lib.run_overlaps_apart W 39 4 46 Tryz.lh 2 (fun w=>by simp[sizeOf,typeInfo,eO,kg]) ⟨gc,0,none⟩ ⟨g,(i+m)*2,none⟩ m qc lb cb du 46 46 kQ.size cur.size (by simp[World.shape?,nT]) (by simp[World.shape?,hg]) (by omega) (gx nT 0) (gx nT _)]
  rfl
 have cj:Hid (((W.drew.setRow g bw).setRow g cg).ownsRow lo 46 2 (.slice (some ⟨g,0,none⟩) (n+m) q) (n+m) (xs.take (i*2)++vs++xs.drop (i*2))):=by
  refine⟨?_,.inr ⟨g,q,cg,rfl,bR,setRow_heap _ g bw cg 46 (0,0) oH,hroom,by unfold maxLen;exact yd,by rw[qo,iE], ?_⟩⟩
  ·simp only[List.length_append,List.length_take,kU,fQ,gD];have:i*2≤n*2:=Nat.mul_le_mul_right 2 (by omega);omega
  ·have:=rV (l:=cur.toList) (i:=i*2) (n:=n*2) (m:=m*2) wJ gD fQ (by omega) (by rw[Array.length_toList,iE];omega) cur rfl;rw[fb,eZ,Nat.add_mul,Nat.add_mul];exact this
 have p5:Hid (iq (some ⟨g,0,none⟩) W ((W.drew.setRow g bw).setRow g cg)):=⟨rfl,rfl,rfl,by rw[size_setRow,size_setRow];exact zE,fun b _ hb=>by
  rw[setRow_other _ g b cg (hb g rfl),setRow_other _ g b bw (hb g rfl)];rfl⟩
 clear eZ fb oH p6 hg nT hv fQ fy ed wJ gD kU gC gB kT qo iE hmul;go_enter Tryz.func104,Tryz.ntmps104
 go_wp2_with (simp only[Q8])
 go_region_law_o (refine eS rfl _ _ 39 39 rfl _ _ (by simp[Act.eval,Act.put]) (by simp[Act.eval,Act.put]) (Mh _ _ _) ?_)
 go_wp2_with (at_builtin;refine wpList_copy_runJ _ rfl _ _ 39 39 rfl _ _ rfl rfl (Lu _ _) ?_)
 go_ret;exact⟨g,q,rfl,cj.out,p5.out,Or.inl rfl⟩
theorem AQ (lo:Nat) (W:World) (g n q:Nat) (xs vs:List Value) (h:W.ownsRow lo 46 2 (.slice (some ⟨g,0,none⟩) n q) n xs) (ed:∀ u∈xs,u.oneCell'=true) (gc m qc:Nat) (kQ:Array Value) (nT:W.heap[gc]? =some (.cells kQ 46 (0,0))) (hv:∀ j u,vs[j]? =some u→W.cell? ⟨gc,j,none⟩=some u) (fQ:vs.length=m*2) (fy:∀ u∈vs,u.oneCell'=true) (hm:0<m) (i:Nat) (hi:i<n) (hroom:q<n+m) (hlow:lo≤W.heap.size) (hn:n+m≤1048576):
  Calls Tryz.prog 104 #[.slice (some ⟨g,0,none⟩) n q,.int .i64 (i:Nat),.slice (some ⟨gc,0,none⟩) m qc] W fun e W'=>∃ g' q',e=.returned (.slice (some ⟨g',0,none⟩) (n+m) q')∧W'.ownsRow lo 46 2 (.slice (some ⟨g',0,none⟩) (n+m) q') (n+m) (xs.take (i*2)++vs++xs.drop (i*2))∧iq (some ⟨g,0,none⟩) W W'∧(some (⟨g,0,none⟩:Addr)=some ⟨g',0,none⟩∨W.heap.size≤g'):=by
 obtain⟨gD,ep⟩:=h;rcases ep with⟨e,_⟩|⟨g',cap,cur,e,bR,hg,yg,yd,iE,wJ⟩
 ·cases e
 cases e
 obtain⟨i1,eO,ei1⟩:=Option.map_eq_some_iff.1 Tryz.Eg;simp only[Prod.mk.injEq]at ei1;obtain⟨dJ,kg,tz⟩:=ei1;have mP:(Tryz.prog.info? 46).map (·.size)=some 2:=by rw[eO];simp[kg]
 unfold maxLen at yd;have mixed:Tryz.prog.follows .mixedOrders=true:=by kernel_rfl
 have ns:¬ ((m:Int)=0):=by omega
 have gH:¬ ((i:Int)=(n:Int)):=by omega
 have Br:(q:Int)<(n:Int)+(m:Int):=by omega
 have gF:(0:Int)≤(i:Int):=by omega
 have gG:(i:Int)≤(n:Int):=by omega
 have bJ:(0:Int)≤(i:Int)+(m:Int):=by omega
 have R1:((i:Int)+(m:Int)).toNat=i+m:=by omega
 have qq:IntKind.i64.wrap ((i:Int)+(m:Int))=(i:Int)+(m:Int):=fI _ (by omega) (by omega);have gI:IntKind.i64.wrap ((n:Int)+(m:Int))=(n:Int)+(m:Int):=fI _ (by omega) (by omega);have gh:IntKind.i64.wrap ((n:Int)+(m:Int) - (i:Int))=(n:Int)+(m:Int) - (i:Int):=fI _ (by omega) (by omega);have oE:(n:Int)+(m:Int) - (i:Int)=((n+m - i:Nat):Int):=by omega
 have L5:i+(n+m - i)=n+m:=by omega
 have hiq:(i:Int)≤(q:Int):=by omega
 have kU:(xs.drop (i*2)).length=(n - i)*2:=by rw[List.length_drop,gD,Nat.sub_mul]
 have Ri:i*2≤n*2:=Nat.mul_le_mul_right 2 (by omega);have qK:(xs.take (i*2)).length=i*2:=by rw[List.length_take,gD];omega
 have p6:∀ j u,xs[j]? =some u→W.cell? ⟨g,j,none⟩=some u:=fun j u hj=>by
  rw[← wJ,List.getElem?_take]at hj;simp only[World.cell?,hg];split at hj
  ·simpa using hj
  ·cases hj
 have tP:g<W.heap.size:=dN hg;have LZ:gc<W.heap.size:=dN nT;have hold:(Builtin.firstCells i1.size i (.slice (some ⟨g,0,none⟩) i q)).run Tryz.prog W.drew=.ok (xs.take (i*2)).toArray W.drew:=by
  rw[kg];refine run_firstCells_some W.drew 2 i ⟨g,0,none⟩ i q (xs.take (i*2)) qK (fun j v hj=> ?_);rw[km,Nat.zero_add];rw[List.getElem?_take]at hj;split at hj
  ·exact p6 j v hj
  ·cases hj
 obtain⟨Z,hZ⟩:∃ Z:Value,Z=(.agg #[.string ByteArray.empty,.slice none 0 0]):=⟨_,rfl⟩
 rw[← hZ]at dJ;have OL:Z.cells.size=2:=by rw[hZ];rfl
 clear hZ;have EK:∀ ty,(Builtin.append_ #[39,3] ty #[.slice (some ⟨g,0,none⟩) i q,.int .i64 ((n:Int)+(m:Int) - (i:Int))]).run Tryz.prog W=
   .ok (.slice (some ⟨W.heap.size,0,none⟩) (n+m) (grownCap W (n+m) q 46)) (W.drew.alloc (.cells ((xs.take (i*2)).toArray++Builtin.zeroCells Z.cells (n+m - i)++Builtin.zeroCells Z.cells (grownCap W (n+m) q 46 - (n+m))) 46)):=fun ty=>by
  have hmul:(n+m)*40≤1048576*40:=Nat.mul_le_mul_right 40 hn;have Pc:(n+m - i)*40≤1048576*40:=Nat.mul_le_mul_right 40 (by omega);have h:=Lib.run_append_grow_zeros W 39 3 ty 46 i1 Z .i64 .i64 Tryz.lh (by kernel_rfl) eO dJ (some ⟨g,0,none⟩) i q (xs.take (i*2)) hold (n+m - i) (by omega) (by omega) (by omega) (by omega) (by rw[tz];omega) (by rw[tz,L5];exact growslice_fits hroom (by omega));rw[L5]at h;rw[oE];exact h
 have K9:=grownCap_ge W (n+m) q 46;have tG:=grownCap_le_maxLen W (n+m) q 46 (by unfold maxLen;omega);obtain⟨G,hG⟩:∃ G,G=grownCap W (n+m) q 46:=⟨_,rfl⟩
 rw[← hG]at EK K9 tG;clear hG;have Fk:=tG;unfold maxLen at Fk;obtain⟨ROW,tD⟩:∃ ROW:Array Value,ROW=(xs.take (i*2)).toArray++Builtin.zeroCells Z.cells (n+m - i)++Builtin.zeroCells Z.cells (G - (n+m)):=⟨_,rfl⟩
 rw[← tD]at EK;have H8:ROW.size=G*2:=by
  rw[tD,Array.size_append,Array.size_append,size_zeroCells,size_zeroCells,OL,List.size_toArray,qK];rw[← Nat.add_mul,← Nat.add_mul];congr 1;omega
 have O6:ROW.toList=xs.take (i*2)++((Builtin.zeroCells Z.cells (n+m - i)).toList++(Builtin.zeroCells Z.cells (G - (n+m))).toList):=by
  rw[tD];simp
 clear tD;obtain⟨bw,eZ⟩:∃ bw,bw=seg ROW (i*2) vs:=⟨_,rfl⟩
 obtain⟨cg,fb⟩:∃ cg,cg=seg bw ((i+m)*2) (xs.drop (i*2)):=⟨_,rfl⟩
 have hG7:(n+m)*2≤G*2:=Nat.mul_le_mul_right 2 K9;have gC:i*2+vs.length≤ROW.size:=by rw[fQ,H8];omega
 have kT:bw.size=ROW.size:=by rw[eZ];exact fH gC
 have gB:(i+m)*2+(xs.drop (i*2)).length≤bw.size:=by rw[kU,kT,H8];omega
 have qo:cg.size=ROW.size:=by rw[fb,fH gB,kT]
 obtain⟨V,hV⟩:∃ V,V=W.drew.alloc (.cells ROW 46):=⟨_,rfl⟩
 have KU:V.heap[W.heap.size]? =some (.cells ROW 46 (0,0)):=by rw[hV];exact heap_alloc_new W.drew _
 have Fp:Bel W V:=by rw[hV];exact ae (Below.drew zR) _
 have LM:∀ (V':World),V'.heap=V.heap→∀ ty dc,(Builtin.copy_ #[39,39] ty #[.slice (some ⟨W.heap.size,i*2,none⟩) (n+m - i) dc,.slice (some ⟨gc,0,none⟩) m qc]).run Tryz.prog V'=.ok (goInt (Nat.min m (n+m - i))) (V'.setRow W.heap.size bw):=fun V' qm ty dc=>by
  rw[eZ];refine cK V' _ _ ty 46 2 W.heap.size (i*2) (n+m - i) dc ⟨gc,0,none⟩ m qc ROW 46 vs Tryz.lh mP (by rw[qm];exact KU) ?_ (fun j u hj=> ?_) gC fy
  ·rw[fQ];congr 1;simp only[Nat.min_def];split<;>omega
  ·rw[km,Nat.zero_add];have:=hv j u hj;unfold World.cell? at this ⊢;rw[qm,Fp.block gc LZ];exact this
 have oH:∀ V':World,V'.heap=V.heap→(V'.setRow W.heap.size bw).heap[W.heap.size]? =some (.cells bw 46 (0,0)):=fun V' qm=>setRow_heap V' W.heap.size ROW bw 46 (0,0) (by rw[qm];exact KU);have LA:∀ (V' V'':World),V'.heap=V.heap→V''.heap=(V'.setRow W.heap.size bw).heap→∀ ty dc sc,(Builtin.copy_ #[39,39] ty #[.slice (some ⟨W.heap.size,(i+m)*2,none⟩) (n+m - (i+m)) dc,.slice (some ⟨g,i*2,none⟩) (n - i) sc]).run Tryz.prog V''=.ok (goInt (Nat.min (n - i) (n+m - (i+m)))) (V''.setRow W.heap.size cg):=fun V' V'' qm mD ty dc sc=>by
  rw[fb];refine cK V'' _ _ ty 46 2 W.heap.size ((i+m)*2) (n+m - (i+m)) dc ⟨g,i*2,none⟩ (n - i) sc bw 46 (xs.drop (i*2)) Tryz.lh mP (by rw[mD];exact oH V' qm) ?_ (fun j u hj=> ?_) gB (fun u hu=>ed u (List.mem_of_mem_drop hu))
  ·rw[kU];congr 1;simp only[Nat.min_def];split<;>omega
  ·rw[km];have:=p6 (i*2+j) u (by rwa [List.getElem?_drop]at hj);unfold World.cell? at this ⊢;rw[mD,setRow_other V' W.heap.size g bw (by omega),qm,Fp.block g tP];exact this
 have cj:Hid (∀ (V' V'':World),V'.heap=V.heap→V''.heap=(V'.setRow W.heap.size bw).heap→V'.os=W.os→V'.tape=W.tape→V'.output=W.output→V''.os=V'.os→V''.tape=V'.tape→V''.output=V'.output→(V''.setRow W.heap.size cg).ownsRow lo 46 2 (.slice (some ⟨W.heap.size,0,none⟩) (n+m) G) (n+m) (xs.take (i*2)++vs++xs.drop (i*2))∧iq (some ⟨g,0,none⟩) W (V''.setRow W.heap.size cg)):=by
  intro V' V'' qm mD o1 o2 o3 r1 r2 r3;refine⟨⟨?_,.inr ⟨W.heap.size,G,cg,rfl,hlow,setRow_heap _ _ bw cg 46 (0,0) (by rw[mD];exact oH V' qm),K9,tG,by rw[qo,H8], ?_⟩⟩,⟨r1.trans o1,r2.trans o2,r3.trans o3, ?_,fun b hb _=> ?_⟩⟩
  ·simp only[List.length_append,qK,kU,fQ];omega
  ·have:=vE (cs:=xs) (i:=i*2) (n:=n*2) (m:=m*2) gD fQ (by omega) ROW O6;rw[fb,eZ,Nat.add_mul,Nat.add_mul];exact this
  ·rw[size_setRow,mD,size_setRow,qm];exact Fp.size
  ·rw[setRow_other _ _ b cg (by omega),mD,setRow_other _ _ b bw (by omega),qm,Fp.block b hb]
 have hGi:¬ (G=i):=by omega
 have Rk:¬ (G=i+m):=by omega
 have hqi:¬ (q=i):=by omega
 have eP:(i:Int)≤(n:Int)+(m:Int):=by omega
 have hE:((W.alloc (.cells ROW 46)).drew).heap=V.heap:=by rw[hV];rfl
 have hF:(((W.alloc (.cells ROW 46)).drew.setRow W.heap.size bw).drew).heap=((W.alloc (.cells ROW 46)).drew.setRow W.heap.size bw).heap:=rfl;subst hV;clear eZ fb oH p6 hg nT hv fQ fy ed wJ gD kU gC gB kT qo iE O6 H8 hold oE L5 qK KU Fp dJ OL tG;go_enter Tryz.func104,Tryz.ntmps104
 go_wp2_with (first
  |(at_builtin;refine Lib.wpList_append_run _ rfl _ _ _ _ rfl _ _ rfl rfl _ _ (EK _) ?_)
  |(at_builtin;refine wpList_copy_runJ _ rfl _ _ 39 39 rfl _ _ rfl rfl (LM _ hE _ _) ?_))
 go_region_law_o (refine eS rfl _ _ 39 39 rfl (.slice (some ⟨W.heap.size,(i+m)*2,none⟩) (n+m - (i+m)) (G - (i+m))) (.slice (some ⟨g,i*2,none⟩) (n - i) (q - i)) (by simp[Act.eval,Act.put]) (by simp[Act.eval,Act.put]) (LA _ _ hE hF 3 (G - (i+m)) (q - i)) ?_)
 go_wp2;go_ret;obtain⟨r1,r2⟩:=cj.out _ _ hE hF rfl rfl rfl rfl rfl rfl;exact⟨W.heap.size,G,rfl,r1,r2,Or.inr zE⟩
theorem CL (lo:Nat) (W:World) (p1:Option Addr) (n q:Nat) (xs vs:List Value) (m:Nat) (h:W.ownsRow lo 46 2 (.slice p1 n q) n xs) (lc:Nat) (vc:Value) (ed:∀ u∈xs,u.oneCell'=true) (fy:∀ u∈vs,u.oneCell'=true) (hc:W.ownsRow lc 46 2 vc m vs) (yw:0<m) (du:∀ g,p1=some ⟨g,0,none⟩→g<lc) (i:Nat) (hi:i≤n) (hn:n+m≤1048576) (bR:lo≤W.heap.size):
  Calls Tryz.prog 104 #[.slice p1 n q,.int .i64 (i:Nat),vc] W fun e W'=>∃ g' q',e=.returned (.slice (some ⟨g',0,none⟩) (n+m) q')∧W'.ownsRow lo 46 2 (.slice (some ⟨g',0,none⟩) (n+m) q') (n+m) (xs.take (i*2)++vs++xs.drop (i*2))∧iq p1 W W'∧(p1=some ⟨g',0,none⟩∨W.heap.size≤g'):=by
 have fQ:=hc.1;rcases hc.2 with⟨_,e⟩|⟨gc,qc,kQ,rfl,hlc,nT,_⟩
 ·omega
 have hv:∀ j u,vs[j]? =some u→W.cell? ⟨gc,j,none⟩=some u:=by
  obtain⟨g2,cg,e2,_,_,_,p6⟩:=vQ hc yw;injection e2 with e2
  injection e2 with e2 _ _
  subst e2;exact p6
 by_cases gG:i=n
 ·subst gG;refine(DG lo W p1 i q _ _ h gc m qc hv (fQ) fy yw hn bR).mono ?_;rintro e W' ⟨g',q',rfl,h1,h2,h3⟩;refine⟨g',q',rfl, ?_,h2,h3⟩;have hx:=h.1;rw[List.take_of_length_le (by omega),List.drop_of_length_le (by omega),List.append_nil];exact h1
 ·rcases h.2 with⟨_,e⟩|⟨g,cap,cur,e,_⟩
  ·omega
  cases e
  by_cases hroom:n+m≤q
  ·exact Aq lo W g n q _ _ h ed gc m qc kQ nT hv (fQ) fy yw (by have:=du g rfl;omega) i (by omega) hroom hn
  ·exact AQ lo W g n q _ _ h ed gc m qc kQ nT hv (fQ) fy yw i (by omega) (by omega) bR hn
theorem uM {W:World} {p:Nat} {x:Obj} (h:W.heap[p]? =some x):p<W.heap.size:=(Array.getElem?_eq_some_iff.1 h).1
structure Frm (S:Nat→Prop) (w w':World):Prop where
 os:w'.os=w.os
 tape:w'.tape=w.tape
 output:w'.output=w.output
 size:w.heap.size≤w'.heap.size
 block:∀ p,p<w.heap.size→¬ S p→w'.heap[p]? =w.heap[p]?
theorem Frm.trans {S:Nat→Prop} {a b c:World} (h:Frm S a b) (k:Frm S b c):Frm S a c:=
 ⟨k.os.trans h.os,k.tape.trans h.tape,k.output.trans h.output,Nat.le_trans h.size k.size,fun p hp hn=>(k.block p (zL hp h.size) hn).trans (h.block p hp hn)⟩
theorem Marks.frm {S T:Nat→Prop} {a b:World} (h:Marks S a b) (hS:∀ p,S p→T p):Frm T a b:=⟨h.os,h.tape,h.output,h.size,fun p hp hn=>h.block p hp (fun q=>hn (hS p q))⟩
theorem Frm.aG {S:Nat→Prop} {a b:World} (h:Bel a b):Frm S a b:=⟨h.os,h.tape,h.output,h.size,fun p hp _=>h.block p hp⟩
theorem Frm.below {S:Nat→Prop} {x a b:World} (h:Frm S a b) (hS:∀ p,S p→x.heap.size≤p) (hb:Bel x a):Bel x b:=
 ⟨h.os.trans hb.os,h.tape.trans hb.tape,h.output.trans hb.output,Nat.le_trans hb.size h.size,fun p hp=>(h.block p (zL hp hb.size) (fun q=>by have:=hS p q;omega)).trans (hb.block p hp)⟩
theorem aV.frm {S:Nat→Prop} {a b:World} {p:Nat} {t:TypeId} {m:Nat} (h:aV a p t m) (k:Frm S a b) (hp:¬ S p):aV b p t m:=by
 have hl:=h.lt;obtain⟨c,h1,h2⟩:=h;exact⟨c,(k.block p hl hp).trans h1,h2⟩
theorem al.frm {S:Nat→Prop} {a b:World} {p:Nat} {t:TypeId} {cs:List Value} (h:al a p t cs) (k:Frm S a b) (hp:¬ S p):al b p t cs:=
 ⟨h.own.frm k hp,cO h.at_ fun j _=>World.cell?_of_block (a:=⟨p,0+j,none⟩) (k.block p h.own.lt hp)⟩
theorem Rep.frm {w w':World} {tt:Bool} {ss:List Sh} {F:List Nat} {ds:List Dt} {cs:List Value} {S:Nat→Prop} (h:Rep w tt ss F ds cs) (hb:Frm S w w'):(∀ p∈F,¬ S p)→Rep w' tt ss F ds cs:=by
 induction h with
 |nil=>intro _;exact .nil
 |i n h ih=>intro hS;exact .i n (ih hS)
 |b n h ih=>intro hS;exact .b n (ih hS)
 |s n h ih=>intro hS;exact .s n (ih hS)
 |emp t sh a ht h ih=>intro hS;exact .emp t sh a ht (ih hS)
 |row t sh p o n c u m vs es G ho hm ht hn hr he h ih1 ih=>
  intro hS;refine .row t sh p o n c u m vs es G (ho.frm hb (hS p (by simp))) hm ht hn (cO hr fun j _=> ?_) (ih1 fun q hq=>hS q (by simp[hq])) (ih fun q hq=>hS q (by simp[hq]));exact World.cell?_of_block (a:=⟨p,_,none⟩) (hb.block p ho.lt (hS p (by simp)))
theorem Frm.mono {S T:Nat→Prop} {a b:World} (h:Frm S a b) (hs:∀ p,S p→T p):Frm T a b:=⟨h.os,h.tape,h.output,h.size,fun p hp hn=>h.block p hp fun q=>hn (hs p q)⟩
theorem bK {S:Nat→Prop} {W W':World} {lo:Nat} {e:TypeId} {size:Nat} {v:Value} {n:Nat} {xs:List Value} (h:W.ownsRow lo e size v n xs) (k:Frm S W W') (hn:∀ g,v.ownBlock=some g→¬ S g):W'.ownsRow lo e size v n xs:=by
 refine⟨h.1, ?_⟩;rcases h.2 with q|⟨g,cap,cur,e1,h1,h2,r⟩
 ·exact .inl q
 ·exact .inr ⟨g,cap,cur,e1,h1,(k.block g (uM h2) (hn g (by rw[e1];rfl))).trans h2,r⟩
theorem cC {W:World} {lo:Nat} {e:TypeId} {size:Nat} {v:Value} {n:Nat} {xs:List Value} (h:W.ownsRow lo e size v n xs) {g:Nat} (hg:v.ownBlock=some g):lo≤g∧∃ cur,W.heap[g]? =some (.cells cur e (0,0)):=by
 rcases h.2 with⟨q,_⟩|⟨g',cap,cur,e1,h1,h2,r⟩
 ·rw[q]at hg;cases hg
 ·rw[e1]at hg;injection hg with hg
  have x9:g'=g:=hg;subst x9;exact⟨h1,cur,h2⟩
theorem gv {W:World} {lo lo':Nat} {e e':TypeId} {s s':Nat} {v v':Value} {n n':Nat} {xs xs':List Value} (h:W.ownsRow lo e s v n xs) (h':W.ownsRow lo' e' s' v' n' xs') (du:e≠e') {g:Nat} (hg:v.ownBlock=some g):v'.ownBlock≠some g:=fun x9=>by
 obtain⟨_,c,h1⟩:=cC h hg;obtain⟨_,c',h2⟩:=cC h' x9;rw[h1]at h2;injection h2 with h2
 injection h2 with _ h2
 exact du h2
theorem rQ {W:World} {lo:Nat} {t:TypeId} {sh:List Sh} {v:Value} {n:Nat} {es:List Dt} {cs:List Value} {F:List Nat} {tt:Bool} (h:W.ownsRow lo t sh.length v n cs) (hr:Rep W tt (bf n sh) F es cs) (he:n=0→es=[]) (hn:n≤maxLen):Raw W [.row t sh] [.row n es] [v]:=by
 rcases h.2 with⟨q,q2⟩|⟨g,cap,cur,e1,h1,h2,h3,h4,h5,h6⟩
 ·subst q2;rw[q,he rfl];exact .emp _ _ _ _ .nil
 ·rw[e1];refine .row t sh g 0 n cap cs es (uM h2) ⟨hn,h3⟩ ?_ hr.raw .nil;intro j u hj;rw[Nat.zero_add];rw[← h6,List.getElem?_take]at hj;simp only[World.cell?,h2];split at hj
  ·simpa using hj
  ·cases hj
theorem rj {W:World} {lo:Nat} {t:TypeId} {sh:List Sh} {v:Value} {n:Nat} {es:List Dt} {cs:List Value} {F:List Nat} (h:W.ownsRow lo t sh.length v n cs) (hr:Rep W false (bf n sh) F es cs) (he:n=0→es=[]) (hn:n≤maxLen) (jl:F.Nodup) (bR:∀ b∈F,lo≤b) (hg:∀ g,v.ownBlock=some g→g ∉ F):
  ∃ G,Rep W false [.row t sh] G [.row n es] [v]∧G.Nodup∧(∀ b∈G,lo≤b)∧(∀ b∈G,b∈F∨v.ownBlock=some b):=by
 rcases h.2 with⟨q,q2⟩|⟨g,cap,cur,e1,h1,h2,h3,h4,h5,h6⟩
 ·subst q2;rw[q,he rfl];exact⟨[],.emp _ _ _ rfl .nil,List.nodup_nil,by simp,by simp⟩
 ·have hb:v.ownBlock=some g:=by rw[e1];rfl
  refine⟨g::F++[], ?_, ?_, ?_, ?_⟩
  ·rw[e1];refine Rep.row t sh g 0 n cap t cur.size cs es F ⟨cur,h2,rfl⟩ (by rw[h5,Nat.zero_add];exact zE) (by intro h;cases h) ⟨hn,h3⟩ ?_ hr .nil;intro j u hj;rw[Nat.zero_add];rw[← h6,List.getElem?_take]at hj;simp only[World.cell?,h2];split at hj
   ·simpa using hj
   ·cases hj
  ·rw[List.append_nil];exact List.nodup_cons.2 ⟨hg g hb,jl⟩
  ·intro b gb;rw[List.append_nil]at gb;rcases List.mem_cons.1 gb with rfl|q
   ·exact h1
   ·exact bR b q
  ·intro b gb;rw[List.append_nil]at gb;rcases List.mem_cons.1 gb with rfl|q
   ·exact Or.inr hb
   ·exact Or.inl q
theorem za {W:World} {tt:Bool} {ss:List Sh} {F:List Nat} {ds:List Dt} {cs:List Value} (h:Rep W tt ss F ds cs):∀ u∈cs,u.oneCell'=true:=by
 induction h with
 |nil=>intro u hu;cases hu
 |i n h ih=>intro u hu;rcases List.mem_cons.1 hu with rfl|q;exact rfl;exact ih u q
 |b n h ih=>intro u hu;rcases List.mem_cons.1 hu with rfl|q;exact rfl;exact ih u q
 |s n h ih=>intro u hu;rcases List.mem_cons.1 hu with rfl|q;exact rfl;exact ih u q
 |emp t sh a ht h ih=>intro u hu;rcases List.mem_cons.1 hu with rfl|q;exact rfl;exact ih u q
 |row t sh p o n c u' m vs es G ho hm ht hn hr he h ih1 ih=>intro u hu;rcases List.mem_cons.1 hu with rfl|q;exact rfl;exact ih u q
theorem iq.frm {p:Option Addr} {a b:World} (h:iq p a b):Frm (fun q=>∃ g,p=some ⟨g,0,none⟩∧q=g) a b:=
 ⟨h.os,h.tape,h.output,h.size,fun q hq hn=>h.block q hq fun g hg e=>hn ⟨g,hg,e⟩⟩
namespace RY
theorem mw {P:Program} {id:Nat} {Q:Exit→Act→World→Prop} {a0:Act} {w:World} {l:List Oper} (v:World) (hv:Bel v w)
  (V:Nat→Value→World→Prop) (hVm:∀ j u W W',Bel W W'→V j u W→V j u W') (pure_:List Nat) (Vp:Nat→Value→Prop) (Ip:∀ j∈pure_,∀ u W,V j u W↔Vp j u)
  (K1:Value→World→Prop) (K2:World→Prop) (n iC fuel:Nat) (hiC:iC<n)
  (hm:P.follows .mixedOrders=true) (hasc:asc .any l.toArray=true) (hap:di l=true) (dr:dK l a0.tmps.size=true)
  (hlen:l.length=n+1) (D:List Nat) (hD:(D.all fun d=>decide (d<n)&&waits l n d)=true)
  (hclo:((List.range n).all fun i=>(clo l fuel D).contains i)=true)
  (DC:List Nat) (hDC:(DC.all fun d=>decide (d<n)&&waits l iC d)=true)
  (hcloC:((List.range n).all fun i=>pure_.contains i||i==iC||(clo l fuel DC).contains i)=true) (hpC:pure_.contains iC=false)
  (oC oS:Oper) (hC:l[iC]? =some oC) (hS:l[n]? =some oS) (hSd:oS.dst=none)
  (ks:((l.take n).all fun o=>o.dst.isSome)=true)
  (iH:∀ (i:Nat) (o:Oper),l[i]? =some o→i<n→i≠iC→∀ (a:Act) (W:World),(i ∉ pure_→Bel v W)→(∀ k,cP l k=true→a.eval (.tmp k)=a0.eval (.tmp k))→
   (∀ (j:Nat) (o':Oper) (k:Nat),l[j]? =some o'→o'.dst=some k→(∃ e∈o.after,e.on=j∧Region.binds .any e=true)→j<n→j≠iC→(i∈pure_→j∈pure_)→V j (a.eval (.tmp k)) W)→
   (∃ u W',(execOp a.eval o).run P W=.ok (.value u) W'∧(i∈pure_→W'=W)∧Bel W W'∧V i u W')∨
   (i ∉ pure_∧∃ f args,(execOp a.eval o).run P W=.ok (.enter f args) W∧Calls P f args W fun e W'=>∃ u,e=.returned u∧Bel W W'∧V i u W'))
  (hcall:∀ (a:Act) (W:World),Bel v W→(∀ k,cP l k=true→a.eval (.tmp k)=a0.eval (.tmp k))→
   (∀ (j:Nat) (o':Oper) (k:Nat),l[j]? =some o'→o'.dst=some k→(∃ e∈oC.after,e.on=j∧Region.binds .any e=true)→j<n→j≠iC→V j (a.eval (.tmp k)) W)→
   ∃ f args,(execOp a.eval oC).run P W=.ok (.enter f args) W∧Calls P f args W fun e W'=>∃ u,e=.returned u∧K1 u W')
  (kS:∀ (a:Act) (W:World) (vals:Nat→Value),K1 (vals iC) W→(∀ k,cP l k=true→a.eval (.tmp k)=a0.eval (.tmp k))→(∀ j∈pure_,Vp j (vals j))→
   (∀ (j:Nat) (o':Oper) (k:Nat),l[j]? =some o'→o'.dst=some k→(∃ e∈oS.after,e.on=j∧Region.binds .any e=true)→j<n→a.eval (.tmp k)=vals j)→
   ∃ W',(execOp a.eval oS).run P W=.ok .skip W'∧K2 W')
  (JC:∀ j∈pure_,j<n)
  (dt:∀ (vs:Nat→Value) (W:World),K2 W→Q .normal (aC l a0 vs) W):
  (Code.region id l.toArray true).wp P Q a0 w:=by
 rw[List.all_eq_true]at hD hDC;refine j5 (fun _ _=>True) (fun up vals W=>(up n=false→up iC=false→Bel v W∧∀ j,j<n→j≠iC→up j=true→V j (vals j) W)∧(up n=false→up iC=true→K1 (vals iC) W∧∀ j∈pure_,up j=true→Vp j (vals j))∧(up n=true→K2 W)) hm hasc hap dr ?_ ?_ ?_
 ·intro vals;exact⟨fun _ _=>⟨Below.drew hv,fun j _ _ h=>by simp at h⟩,fun _ h=>by simp at h,fun h=>by simp at h⟩
 ·intro up vals i o ho hi eN a W hk Oz hT;have nt:i<n+1:=by rw[← hlen];exact(List.getElem?_eq_some_iff.1 ho).1
  have eQ:∀ j o',l[j]? =some o'→j<n→o'.dst.isSome=true:=fun j o' hj h=>by
   rw[List.all_eq_true]at ks;exact ks _ (List.mem_of_getElem? (i:=j) (by rw[List.getElem?_take_of_lt h];exact hj))
  have qN:(∀ d∈D,up d=true)→∀ j,j<n→up j=true:=fun h j hj=>by
   rw[List.all_eq_true]at hclo;have:=hclo j (by simp;omega);exact gm eN fuel D h j (by simpa using this)
  have RV:(∀ d∈DC,up d=true)→∀ j,j<n→j ∉ pure_→j≠iC→up j=true:=fun h j hj hp du=>by
   rw[List.all_eq_true]at hcloC;have:=hcloC j (by simp;omega);rw[Bool.or_eq_true,Bool.or_eq_true]at this;rcases this with(q|q)|q
   ·exact absurd (by simpa using q) hp
   ·exact absurd (by simpa using q) du
   ·exact gm eN fuel DC h j (by simpa using q)
  have upS:up n=true→∀ j,j<n→up j=true:=fun h=>qN fun d hd=>by
   have h2:=hD d hd;rw[Bool.and_eq_true,decide_eq_true_eq]at h2;obtain⟨e,he,mM,oI⟩:=aU h2.2 hS;rw[← mM];exact eN n oS e hS he oI h
  have upC:up iC=true→∀ j,j<n→j ∉ pure_→j≠iC→up j=true:=fun h=>RV fun d hd=>by
   have h2:=hDC d hd;rw[Bool.and_eq_true,decide_eq_true_eq]at h2;obtain⟨e,he,mM,oI⟩:=aU h2.2 hC;rw[← mM];exact eN iC oC e hC he oI h
  by_cases kB:up n=true
  ·exfalso;by_cases e:i=n
   ·rw[e,kB]at hi;cases hi
   ·rw[upS kB i (by omega)]at hi;cases hi
  have kB:up n=false:=by simpa using kB
  by_cases gG:i=n
  ·subst gG;rw[hS]at ho;injection ho with ho
   subst ho;have bs:∀ j,j<i→up j=true:=qN fun d hd=>by
    have h2:=hD d hd;rw[Bool.and_eq_true,decide_eq_true_eq]at h2;obtain⟨e,he,mM,oI⟩:=aU h2.2 hS;have kU:d<l.length:=by rw[hlen];omega
    obtain⟨k,jg⟩:=Option.isSome_iff_exists.1 (eQ d l[d] (by simp) h2.1);exact(Oz d l[d] k (by simp) jg ⟨e,he,mM,oI⟩).1
   obtain⟨Bh,Iy⟩:=hT.2.1 kB (bs iC hiC);obtain⟨W',hr,hK⟩:=kS a W vals Bh hk (fun j hj=>Iy j hj (bs j (JC j hj))) (fun j o' k hj jg hd lJ=>(Oz j o' k hj jg hd).2.1);exact Or.inr (Or.inl ⟨W',hr,hSd,fun h=>by simp at h,fun h=>by simp at h,fun _=>hK⟩)
  have yE:i<n:=by omega
  have Po:¬ n=i:=by omega
  by_cases zB:i=iC
  ·subst zB;rw[hC]at ho;injection ho with ho
   subst ho;obtain⟨BJ,hV⟩:=hT.1 kB hi;obtain⟨f,args,hr,hc⟩:=hcall a W BJ hk (fun j o' k hj jg hd lJ du=>by
    obtain⟨q1,q2,_⟩:=Oz j o' k hj jg hd;rw[q2];exact hV j lJ du q1)
   refine Or.inr (Or.inr ⟨f,args,hr,eQ i _ hC yE,hc.mono ?_⟩);rintro e W' ⟨u,rfl,hK⟩;refine⟨u,rfl,trivial,fun _ h=>by simp at h,fun _ _=>⟨by simpa using hK,fun j hj hu=> ?_⟩,fun h=> ?_⟩
   ·have SJ:¬ j=i:=fun e=>by subst e;rw[List.contains_iff_mem.2 hj]at hpC;cases hpC
    have hu:up j=true:=by simpa [SJ]using hu
    simp only[SJ,if_false];exact(Ip j hj _ _).1 (hV j (JC j hj) SJ hu)
   ·have:up n=true:=by simpa [Po]using h
    rw[kB]at this;cases this
  have M4:¬ iC=i:=fun e=>zB e.symm;by_cases Lo:up iC=true
  ·
   have NQ:i∈pure_:=by
    by_cases q:i∈pure_
    ·exact q
    ·rw[upC Lo i yE q zB]at hi;cases hi
   obtain⟨Bh,Iy⟩:=hT.2.1 kB Lo;rcases iH i o ho yE zB a W (fun h=>absurd NQ h) hk (fun j o' k hj jg hd lJ du wT=>by
     obtain⟨q1,q2,_⟩:=Oz j o' k hj jg hd;rw[q2];have hjp:=wT NQ;exact(Ip j hjp _ _).2 (Iy j hjp q1)) with⟨u,W',hr,hW,_,nI⟩|⟨h,_⟩
   ·have SN:=hW NQ;subst SN;refine Or.inl ⟨u,_,hr,eQ i o ho yE,trivial,fun _ h=> ?_,fun _ _=>⟨?_,fun j hj hu=> ?_⟩,fun h=> ?_⟩
    ·have:up iC=false:=by simpa [M4]using h
     rw[Lo]at this;cases this
    ·simp only[M4,if_false];exact Bh
    ·by_cases e:j=i
     ·simp only[e,if_true];exact(Ip i NQ _ _).1 nI
     ·have hu:up j=true:=by simpa [e]using hu
      simp only[e,if_false];exact Iy j hj hu
    ·have:up n=true:=by simpa [Po]using h
     rw[kB]at this;cases this
   ·exact absurd NQ h
  ·have Lo:up iC=false:=by simpa using Lo
   obtain⟨BJ,hV⟩:=hT.1 kB Lo;have key:∀ u W',Bel W W'→V i u W'→(((fun j=>(j==i)||up j) n=false→(fun j=>(j==i)||up j) iC=false→Bel v W'∧∀ j,j<n→j≠iC→(fun j=>(j==i)||up j) j=true→V j ((fun j=>if j=i then u else vals j) j) W')∧((fun j=>(j==i)||up j) n=false→(fun j=>(j==i)||up j) iC=true→K1 ((fun j=>if j=i then u else vals j) iC) W'∧∀ j∈pure_,(fun j=>(j==i)||up j) j=true→Vp j ((fun j=>if j=i then u else vals j) j))∧((fun j=>(j==i)||up j) n=true→K2 W')):=fun u W' hW nI=>by
    refine⟨fun _ _=>⟨ah BJ hW,fun j hj du hu=> ?_⟩,fun _ h=> ?_,fun h=> ?_⟩
    ·by_cases e:j=i
     ·simp only[e,if_true];exact nI
     ·have hu:up j=true:=by simpa [e]using hu
      simp only[e,if_false];exact hVm _ _ _ _ hW (hV j hj du hu)
    ·have:up iC=true:=by simpa [M4]using h
     rw[Lo]at this;cases this
    ·have:up n=true:=by simpa [Po]using h
     rw[kB]at this;cases this
   rcases iH i o ho yE zB a W (fun _=>BJ) hk (fun j o' k hj jg hd lJ du _=>by
     obtain⟨q1,q2,_⟩:=Oz j o' k hj jg hd;rw[q2];exact hV j lJ du q1) with⟨u,W',hr,_,hW,nI⟩|⟨_,f,args,hr,hc⟩
   ·exact Or.inl ⟨u,W',hr,eQ i o ho yE,trivial,key u W' hW nI⟩
   ·refine Or.inr (Or.inr ⟨f,args,hr,eQ i o ho yE,hc.mono ?_⟩);rintro e W' ⟨u,rfl,hW,nI⟩;exact⟨u,rfl,trivial,key u W' hW nI⟩
 ·intro up vals vs W bs iI hT;exact dt vs W (hT.2.2 (bs n (by omega)))
end RY
theorem Dk (X:World) (lo:Nat) (a b:ByteArray) (v:Value) (h:lo≤X.heap.size):(X.alloc (.cells #[.string a,.string b,v] 41)).ownsRow lo 41 3 (.slice (some ⟨X.heap.size,0,none⟩) 1 1) 1 [.string a,.string b,v]:=
 ⟨rfl,.inr ⟨X.heap.size,1,_,rfl,h,heap_alloc_new X _,zE,by decide,rfl,rfl⟩⟩
def bgC (A:List Pl.Bl) (ws:List ByteArray) (ag:Bool):Nat:=
 if ws.length≠2 then 2 else if (Pl.ai (ws.getD 0 Pl.aJ)).length=0 then 3 else if Pl.aT (ws.getD 1 Pl.aJ)=false then 4 else if ag then 9 else if A.length=60 then 10 else 0
def Ku (rb:Nat) (n:Nat) (q:Nat) (pl:Nat) (p1:Option Addr) (k0:ByteArray) (k1:ByteArray) (ag:Bool):Nat→Value→World→Prop
 |0,vv,_|1,vv,_=>vv=.pointer (some ⟨rb,0,none⟩)
 |2,vv,_=>vv=.pointer (some ⟨rb,5,none⟩)
 |3,vv,_=>vv=.slice p1 n q
 |4,vv,_=>vv=.agg #[.string k0,.string k1,.slice none 0 0]
 |5,vv,_|6,vv,_=>vv=.tuple #[.int .i64 (pl:Int),.bool ag]
 |7,vv,_|9,vv,_=>vv=.int .i64 (pl:Int)
 |8,vv,_|10,vv,_=>vv=.bool ag
 |_,_,_=>True
theorem AT (rb:Nat) (n:Nat) (q:Nat) (pl:Nat) (p1:Option Addr) (k0:ByteArray) (k1:ByteArray) (ag:Bool):∀ jj vv W W',Bel W W'→Ku rb n q pl p1 k0 k1 ag jj vv W→Ku rb n q pl p1 k0 k1 ag jj vv W':=by
 intro jj vv W W' hb h;match jj with
 |0|1|2|3|4|5|6|7|8|9|10=>exact h
 |n+11=>exact trivial
def G4 (rb:Nat) (n:Nat) (q:Nat) (pl:Nat) (nw:Nat) (p1:Option Addr) (k0:ByteArray) (k1:ByteArray):Nat→Value→World→Prop
 |0,vv,_|1,vv,_|2,vv,_|9,vv,_=>vv=.pointer (some ⟨rb,0,none⟩)
 |3,vv,_|10,vv,_=>vv=.pointer (some ⟨rb,5,none⟩)
 |4,vv,_=>vv=.slice p1 n q
 |5,vv,_=>vv=.int .i64 (pl:Int)
 |6,vv,_=>vv=.agg #[.string k0,.string k1,.slice none 0 0]
 |7,vv,W=>∃ g,vv=.slice (some ⟨g,0,none⟩) 1 1∧W.ownsRow nw 41 3 (.slice (some ⟨g,0,none⟩) 1 1) 1 [.string k0,.string k1,.slice none 0 0]
 |8,vv,_=>vv=undef
 |_,_,_=>True
theorem Ak (rb:Nat) (n:Nat) (q:Nat) (pl:Nat) (nw:Nat) (p1:Option Addr) (k0:ByteArray) (k1:ByteArray):∀ jj vv W W',Bel W W'→G4 rb n q pl nw p1 k0 k1 jj vv W→G4 rb n q pl nw p1 k0 k1 jj vv W':=by
 intro jj vv W W' hb h;match jj with
 |0|1|2|3|4|5|6|8|9|10=>exact h
 |7=>
  obtain⟨g,h1,h2⟩:=h;exact⟨g,h1,bK h2 (Frm.aG (S:=fun _=>False) hb) (fun _ _ h=>h)⟩
 |n+11=>exact trivial
theorem JZ (rb mb:Nat) (lv:Value) (at_ op:Int) (wa:Option Addr) (wc:Nat) (ws:List ByteArray) (A:List Pl.Bl) (p1:Option Addr) (q:Nat) (cs:List Value) (F:List Nat) (vt vb vs:Value) (w:World)
  (eE:al w rb 111 [.map (some mb),lv,.int .i64 at_,.slice wa ws.length wc,.bool false,.slice p1 A.length q,.int .i64 op]) (hw:Raw w bB [.row ws.length (txD ws)] [.slice wa ws.length wc]) (zH:∀ x∈ws,x.size≤maxLen)
  (ff:w.ownsRow (rb+1) 41 3 (.slice p1 A.length q) A.length cs) (fc:Rep w false (bf A.length ak) F (A.flatMap blD) cs) (BT:A.length≤60)
  (hm:w.heap[mb]? =some (.map #[⟨.string {data:=#[116,101,97,109]},.agg #[vt],0⟩,⟨.string {data:=#[98,101,114,116,104]},.agg #[vb],1⟩,⟨.string {data:=#[115,101,114,118,105,99,101]},.agg #[vs],2⟩] 3)) (IA:∀ kind,∃ ra rn rc,il kind vt vb vs=.slice ra rn rc)
  (pl:Nat) (dr:pl≤A.length) (h1:∀ i,i<pl→dm (A.getD i Pl.aN) ⟨ws.getD 0 Pl.aJ,ws.getD 1 Pl.aJ,[]⟩<0) (h2:∀ i,pl≤i→i<A.length→0≤dm (A.getD i Pl.aN) ⟨ws.getD 0 Pl.aJ,ws.getD 1 Pl.aJ,[]⟩) (ag:Bool) (oK:ag=(decide (pl<A.length)&&decide (dm (A.getD pl Pl.aN) ⟨ws.getD 0 Pl.aJ,ws.getD 1 Pl.aJ,[]⟩=0))):
  Calls Tryz.prog 77 #[.pointer (some ⟨rb,0,none⟩)] w fun e w'=>
   (bgC A ws ag≠0∧e=.returned (.iface 76 (.agg #[.int .i64 at_,.int .i64 (bgC A ws ag:Nat)]))∧Bel w w')∨
   (bgC A ws ag=0∧e=.returned .nilIface∧∃ g' q',al w' rb 111 [.map (some mb),lv,.int .i64 at_,.slice wa ws.length wc,.bool false,.slice (some ⟨g',0,none⟩) (A.length+1) q',.int .i64 (pl:Int)]∧w'.ownsRow (rb+1) 41 3 (.slice (some ⟨g',0,none⟩) (A.length+1) q') (A.length+1) (cs.take (pl*3)++[.string (ws.getD 0 Pl.aJ),.string (ws.getD 1 Pl.aJ),.slice none 0 0]++cs.drop (pl*3))∧Frm (fun b=>b=rb∨(Value.slice p1 A.length q).ownBlock=some b) w w'∧(p1=some ⟨g',0,none⟩∨w.heap.size≤g')):=by
 have Ig:=uh eE;have Jo:=uh ff;have Lw:=uh fc;have HM:=uh hm;have RW:Hid (∀ u∈cs,u.oneCell'=true):=za fc;have HWZ:=uh zH;have c2:=eE.get 2 _ rfl;have c3:=eE.get 3 _ rfl;have c4:=eE.get 4 _ rfl;have cl:=eE.own.lt;have yk:=uh (fun (code:Int) (W:World) (hW:Bel w W)=>sO rb at_ code W ((hW.cell (p:=⟨rb,2,none⟩) cl).trans c2) (zL cl hW.size));have O8:Hid (Raw w bu [bD A] [.slice p1 A.length q]):=rQ (sh:=ak) ff fc (fun h=>by rw[List.eq_nil_of_length_eq_zero h];rfl) (by unfold maxLen;omega);by_cases gI:ws.length=2
 rotate_left
 ·have d2:((ws.length:Int) !=2)=true:=by simp;omega
  have fN:Hid (Bel w w):=zR;have ib:Hid (bgC A ws ag=2):=by show _=_;unfold bgC;rw[if_pos gI]
  clear eE ff fc hm hw zH;go_enter Tryz.func77,Tryz.ntmps77
  go_wp2_with (go_at_call 99;refine(yk.out 2 _ fN.out).mono ?_;rintro e w' ⟨rfl,rfl⟩)
  go_ret;exact Or.inl ⟨by rw[ib.out];decide,by rw[ib.out];rfl,fN.out⟩
 have d2:((ws.length:Int) !=2)=false:=by simp;omega
 rcases dS hw with⟨e0,_⟩|⟨p,o,c',hv,hp,_,aO⟩
 ·omega
 injection hv with g1 _ g3
 subst g1;subst g3;have y0:w.cell? ⟨p,o,none⟩=some (.string (ws.getD 0 Pl.aJ)):=by simpa using aO 0 (by omega)
 have y1:w.cell? ⟨p,o+1,none⟩=some (.string (ws.getD 1 Pl.aJ)):=aO 1 (by omega);have Mq:Hid ((ws.getD 1 Pl.aJ).size≤maxLen):=by
  have e:ws.getD 1 Pl.aJ=ws[1]:=by simp[gI]
  rw[e];exact HWZ.out _ (List.getElem_mem _)
 have wO:(0:Int)<(ws.length:Int):=by omega
 have jn:(1:Int)<(ws.length:Int):=by omega
 have Pa:Hid (bgC A ws ag=if (Pl.ai (ws.getD 0 Pl.aJ)).length=0 then 3 else if Pl.aT (ws.getD 1 Pl.aJ)=false then 4 else if ag then 9 else if A.length=60 then 10 else 0):=by show _=_;unfold bgC;rw[if_neg (by omega)]
 have qU:=uh (fun (X:World) (hX:Bel w X)=>NI A (.slice p1 A.length q) ⟨ws.getD 0 Pl.aJ,ws.getD 1 Pl.aJ,[]⟩ pl X (O8.out.later hX) (by omega) dr h1 h2);rw[← oK]at qU;obtain⟨k0,ec⟩:∃ k0,k0=ws.getD 0 Pl.aJ:=⟨_,rfl⟩
 obtain⟨k1,Fy⟩:∃ k1,k1=ws.getD 1 Pl.aJ:=⟨_,rfl⟩
 rw[← ec]at y0 Pa qU ⊢;rw[← Fy]at y1 Pa qU Mq ⊢;have BN:=uh (fun W=>iY k1 W Mq.out);obtain⟨ra,rn,rc,oE⟩:=IA k0;have BU:Hid (∀ W,Bel w W→(Instr.lookup 60 (.map (some mb)) (.string k0) true).run Tryz.prog W=.ok (.tuple #[.agg #[.slice ra rn rc],.bool (!decide ((Pl.ai k0).length=0))]) W):=fun W hW=>by
  rw[← oE];exact pW ((hW.block mb (dN HM.out)).trans HM.out) k0
 obtain⟨kn,dP⟩:∃ kn,kn= !decide ((Pl.ai k0).length=0):=⟨_,rfl⟩
 have ES:=uh dP;rw[← dP]at BU;obtain⟨n,hn⟩:∃ n,n=A.length:=⟨_,rfl⟩
 have HN:=uh hn;rw[← hn]at Ig Jo qU Pa ⊢;have SM:Hid (n≤60):=by show _≤_;omega
 have tx:Hid (pl≤n):=by show _≤_;omega
 have QD:=uh gI;have c0:=eE.get 0 _ rfl;clear eE ff fc hm hw zH aO ec Fy dP hn oK h1 h2 IA oE O8;go_enter Tryz.func77,Tryz.ntmps77
 go_upto_region 6 with fail
 have y0':w.drew.cell? ⟨p,o,none⟩=some (.string k0):=y0;have y1':w.drew.cell? ⟨p,o+1,none⟩=some (.string k1):=y1;go_region
 clear y0 y1 y0' y1' c3 c4;obtain⟨wb,jM⟩:∃ wb,wb=(w.alloc (.cells #[.string k0,.string k1,.slice none 0 0] 41)).drew:=⟨_,rfl⟩
 have Jh:Bel w wb:=by rw[jM];exact Below.drew (ae zR _)
 obtain⟨q4,LQ⟩:∃ q4,q4=w.heap.size:=⟨_,rfl⟩
 have Jx:Hid (al wb q4 41 [.string k0,.string k1,.slice none 0 0]):=by
  show al _ _ _ _;rw[jM,LQ];exact(al.new w [.string k0,.string k1,.slice none 0 0] 41 _ rfl).later (Below.drew zR)
 have z0:wb.drew.cell? ⟨q4,0,none⟩=some (.string k0):=Jx.out.get 0 _ rfl;have zl:q4<wb.drew.heap.size:=Jx.out.own.lt;have zc:wb.drew.cell? ⟨rb,0,none⟩=some (.map (some mb)):=(Jh.cell (p:=⟨rb,0,none⟩) cl).trans c0;have zk:=BU.out wb.drew (Below.drew Jh);have zr:rb<wb.drew.heap.size:=zL cl Jh.size;have Bu:Bel wb (wb.alloc (.cells #[.slice none 0 0] 64)).drew:=Below.drew (ae zR _);have z0a:(wb.alloc (.cells #[.slice none 0 0] 64)).drew.cell? ⟨q4,0,none⟩=some (.string k0):=(Bu.cell (p:=⟨q4,0,none⟩) zl).trans z0;have zca:(wb.alloc (.cells #[.slice none 0 0] 64)).drew.cell? ⟨rb,0,none⟩=some (.map (some mb)):=(Bu.cell (p:=⟨rb,0,none⟩) zr).trans zc;have zka:=BU.out _ (ah Jh Bu);have zla:q4<(wb.alloc (.cells #[.slice none 0 0] 64)).drew.heap.size:=zL zl Bu.size;have zra:rb<(wb.alloc (.cells #[.slice none 0 0] 64)).drew.heap.size:=zL zr Bu.size;have kq:=uh Jh;clear c0 Bu Jh;go_upto_region 7 with fail
 rw[← jM,← LQ];clear jM LQ;go_region
 all_goals
  clear z0 zl zc zk zr z0a zca zka zla zra;obtain⟨M7,Lf⟩:∃ M7,M7=(wb.alloc (.cells #[.slice ra rn rc] 64)).drew:=⟨_,rfl⟩
  have Om:Hid (Bel wb M7):=by show Below _ _ _;rw[Lf];exact Below.drew (ae zR _)
  have nQ:Hid (Bel w M7):=ah kq.out Om.out;have jE:=uh (Ig.out.later nQ.out);have tB:=uh (Jx.out.later Om.out);have Qi:=uh (fun (X:World) (hX:Bel M7 X)=>qU.out X (ah nQ.out hX));go_upto_region 8 with fail
  rw[← Lf];clear Lf;refine RY.cA M7 zR (Ku rb n q pl p1 k0 k1 ag) (AT _ _ _ _ _ _ _ _) (by kernel_rfl) (by kernel_rfl) (by kernel_rfl) (by kernel_rfl) ?_ ?_
  ·intro ii o' ho a X hX hk hd;have zrb:=jE.out.later hX;have zrbl:=zrb.own.lt;have zq4:=tB.out.later hX;have zq4l:=zq4.own.lt;match ii,ho with
   |0,rfl=>
    exact RY.p (.pointer (some ⟨rb,0,none⟩)) (by simp[execOp,go_sem,RY.K hk 0 (.pointer (some ⟨rb,0,none⟩))])
   |1,rfl=>
    exact RY.p (.pointer (some ⟨rb,0,none⟩)) (by simp[execOp,go_sem,RY.E hd 0 46])
   |2,rfl=>
    exact RY.p (.pointer (some ⟨rb,5,none⟩)) (by simp[execOp,go_sem,RY.E hd 1 47])
   |3,rfl=>
    have e48:=RY.E hd 2 48;have ycl_:=zrb.get 5 _ rfl;exact RY.p (.slice p1 n q) (by simp[execOp,go_sem,e48,ycl_])
   |4,rfl=>
    have v4:a.eval (.tmp 4)=.pointer (some ⟨q4,0,none⟩):=(hk 4 (by kernel_rfl)).trans rfl;exact Or.inl ⟨_,X,ar 41 _ rfl q4 0 v4 [.string k0,.string k1,.slice none 0 0] _ zq4.at_ Tryz.underlying41 rfl (by kernel_rfl),zR,rfl⟩
   |5,rfl=>
    have e49:=RY.E hd 3 49;have e50:=RY.E hd 4 50;refine Or.inr ⟨100,#[.slice p1 n q,.agg #[.string k0,.string k1,.slice none 0 0],.func (.func 23) #[] #[]],by simp[go_sem,e49,e50],(Qi.out X hX).mono ?_⟩;rintro e W' ⟨rfl,hb⟩;exact⟨_,rfl,hb,rfl⟩
   |6,rfl=>
    exact RY.p (.tuple #[.int .i64 (pl:Int),.bool ag]) (by simp[execOp,go_sem,RY.E hd 5 51])
   |7,rfl=>
    exact RY.p (.int .i64 (pl:Int)) (by simp[execOp,go_sem,RY.E hd 6 45])
   |8,rfl=>
    exact RY.p (.bool ag) (by simp[execOp,go_sem,RY.E hd 6 45])
   |9,rfl=>
    exact RY.p (.int .i64 (pl:Int)) (by simp[execOp,go_sem,RY.E hd 7 52])
   |10,rfl=>
    exact RY.p (.bool ag) (by simp[execOp,go_sem,RY.E hd 8 53])
   |n+11,ho=>simp at ho
  intro X vs hX bg;have q7:vs 7=_:=bg 9 _ 7 rfl rfl;have q8:vs 8=_:=bg 10 _ 8 rfl rfl;simp only[RY.aC,Act.put,List.setIfInBounds_toArray,List.set_cons_zero,List.set_cons_succ];rw[q7,q8];generalize vs 46=s46,vs 47=s47,vs 48=s48,vs 49=s49,vs 50=yp,vs 51=s51,vs 45=s45,vs 52=s52,vs 53=s53;clear bg q7 q8;replace jE:=uh (jE.out.later hX)
  replace tB:=uh (tB.out.later hX)
  have fN:Hid (Bel w X):=ah nQ.out hX;obtain⟨wq,qL⟩:∃ wq,wq=X:=⟨_,rfl⟩
  rw[← qL]at jE tB fN ⊢;clear qL hX Qi;have d1:=tB.out.get 1 _ rfl;have d5:=jE.out.get 5 _ rfl;have dl1:=tB.out.own.lt;have dl5:=jE.out.own.lt;cases kn
  ·have ib:Hid (bgC A ws ag=3):=by
    show _=_;have:(Pl.ai k0).length=0:=by have:=ES.out;simpa using this.symm
    rw[Pa.out,if_pos this]
   go_wp2_with (go_at_call 99;refine(yk.out 3 _ fN.out).mono ?_;rintro e w' ⟨rfl,rfl⟩)
   go_ret;exact Or.inl ⟨by rw[ib.out];decide,by rw[ib.out];rfl,fN.out⟩
  have E7:Hid (bgC A ws ag=if Pl.aT k1=false then 4 else if ag then 9 else if n=60 then 10 else 0):=by
   show _=_;have:¬ (Pl.ai k0).length=0:=by have:=ES.out;simpa using this.symm
   rw[Pa.out,if_neg this]
  obtain⟨nm,yj⟩:∃ nm,nm=Pl.aT k1:=⟨_,rfl⟩
  rw[← yj]at BN E7;clear yj;cases nm
  ·have ib:Hid (bgC A ws ag=4):=E7.out;go_wp2_with (first|(go_at_call 25;refine(BN.out _).mono ?_;rintro e w' ⟨rfl,rfl⟩)|(go_at_call 99;refine(yk.out 4 _ fN.out).mono ?_;rintro e w' ⟨rfl,rfl⟩))
   go_ret;exact Or.inl ⟨by rw[ib.out];decide,by rw[ib.out];rfl,fN.out⟩
  cases ag
  rotate_left
  ·have ib:Hid (bgC A ws true=9):=E7.out;go_wp2_with (first|(go_at_call 25;refine(BN.out _).mono ?_;rintro e w' ⟨rfl,rfl⟩)|(go_at_call 99;refine(yk.out 9 _ fN.out).mono ?_;rintro e w' ⟨rfl,rfl⟩))
   go_ret;exact Or.inl ⟨by rw[ib.out];decide,by rw[ib.out];rfl,fN.out⟩
  by_cases hn60:n=60
  ·have ib:Hid (bgC A ws false=10):=by show _=_;rw[E7.out];simp[hn60]
   have d7:((n:Int)==60)=true:=by simp;omega
   go_wp2_with (first|(go_at_call 25;refine(BN.out _).mono ?_;rintro e w' ⟨rfl,rfl⟩)|(go_at_call 99;refine(yk.out 10 _ fN.out).mono ?_;rintro e w' ⟨rfl,rfl⟩))
   go_ret;exact Or.inl ⟨by rw[ib.out];decide,by rw[ib.out];rfl,fN.out⟩
  have ib:Hid (bgC A ws false=0):=by show _=_;rw[E7.out];simp[hn60]
  have d7:((n:Int)==60)=false:=by simp;omega
  have LN:Hid (wq.ownsRow (rb+1) 41 3 (.slice p1 n q) n cs):=bK Jo.out (Frm.aG (S:=fun _=>False) fN.out) (fun _ _ h=>h);have mO:Hid (∀ u∈cs,u.oneCell'=true):=RW.out;have I2:Hid (∀ g,p1=some ⟨g,0,none⟩→g<wq.heap.size):=fun g hg=>by
   obtain⟨_,cur,yz⟩:=cC LN.out (g:=g) (by rw[hg];rfl);exact dN yz
  have lM:Hid (rb+1≤wq.heap.size):=dl5;have zI:=fN;go_upto_region 17 with(first|(go_at_call 25;refine(BN.out _).mono ?_;rintro e w' ⟨rfl,rfl⟩))
  clear d1 d5 dl1 dl5;refine RY.mw wq zR (G4 rb n q pl wq.heap.size p1 k0 k1) (Ak _ _ _ _ _ _ _ _) [0,9,10] (fun j u=>G4 rb n q pl wq.heap.size p1 k0 k1 j u wq) (by intro j hj u W;simp only[List.mem_cons,List.not_mem_nil,or_false]at hj;rcases hj with rfl|rfl|rfl<;>exact Iff.rfl) (fun u W'=>∃ g' q',u=.slice (some ⟨g',0,none⟩) (n+1) q'∧W'.ownsRow (rb+1) 41 3 (.slice (some ⟨g',0,none⟩) (n+1) q') (n+1) (cs.take (pl*3)++[.string k0,.string k1,.slice none 0 0]++cs.drop (pl*3))∧Frm (fun b=>(Value.slice p1 n q).ownBlock=some b) wq W'∧(p1=some ⟨g',0,none⟩∨wq.heap.size≤g')) (fun W'=>∃ g' q',al W' rb 111 [.map (some mb),lv,.int .i64 at_,.slice (some ⟨p,o,none⟩) ws.length wc,.bool false,.slice (some ⟨g',0,none⟩) (n+1) q',.int .i64 op]∧W'.ownsRow (rb+1) 41 3 (.slice (some ⟨g',0,none⟩) (n+1) q') (n+1) (cs.take (pl*3)++[.string k0,.string k1,.slice none 0 0]++cs.drop (pl*3))∧Frm (fun b=>b=rb∨(Value.slice p1 n q).ownBlock=some b) wq W'∧(p1=some ⟨g',0,none⟩∨wq.heap.size≤g')) 11 8 12 (by decide) (by kernel_rfl) (by kernel_rfl) (by kernel_rfl) (by kernel_rfl) rfl [8,10] (by kernel_rfl) (by kernel_rfl) [4,5,7] (by kernel_rfl) (by kernel_rfl) (by kernel_rfl) _ _ rfl rfl rfl (by kernel_rfl) ?_ ?_ ?_ (by decide) ?_
  ·intro ii o' ho E2 zB a X qf hk hd;match ii,ho with
   |0,rfl=>
    exact Or.inl ⟨.pointer (some ⟨rb,0,none⟩),X,by simp[execOp,go_sem,RY.K hk 0 (.pointer (some ⟨rb,0,none⟩))],(fun _=>rfl),zR,rfl⟩
   |1,rfl=>
    have hX:=qf (by decide);exact Or.inl ⟨.pointer (some ⟨rb,0,none⟩),X,by simp[execOp,go_sem,RY.K hk 0 (.pointer (some ⟨rb,0,none⟩))],(fun _=>rfl),zR,rfl⟩
   |2,rfl=>
    have hX:=qf (by decide);have e80:a.tmps[80]?.getD undef=.pointer (some ⟨rb,0,none⟩):=(RY.af a 80).trans (hd 1 _ 80 rfl rfl ⟨⟨1,.data⟩,by simp,rfl,rfl⟩ (by decide) (by decide) (by decide));exact Or.inl ⟨.pointer (some ⟨rb,0,none⟩),X,by simp[execOp,go_sem,e80],(fun _=>rfl),zR,rfl⟩
   |3,rfl=>
    have hX:=qf (by decide);have e81:a.tmps[81]?.getD undef=.pointer (some ⟨rb,0,none⟩):=(RY.af a 81).trans (hd 2 _ 81 rfl rfl ⟨⟨2,.data⟩,by simp,rfl,rfl⟩ (by decide) (by decide) (by decide));exact Or.inl ⟨.pointer (some ⟨rb,5,none⟩),X,by simp[execOp,go_sem,e81],(fun _=>rfl),zR,rfl⟩
   |4,rfl=>
    have hX:=qf (by decide);have zrb:=jE.out.later hX;have zrbl:=zrb.own.lt;have zq4:=tB.out.later hX;have zq4l:=zq4.own.lt;have e82:a.tmps[82]?.getD undef=.pointer (some ⟨rb,5,none⟩):=(RY.af a 82).trans (hd 3 _ 82 rfl rfl ⟨⟨3,.data⟩,by simp,rfl,rfl⟩ (by decide) (by decide) (by decide));have ycl_:=zrb.get 5 _ rfl;exact Or.inl ⟨.slice p1 n q,X,by simp[execOp,go_sem,e82,ycl_],(fun _=>rfl),zR,rfl⟩
   |5,rfl=>
    have hX:=qf (by decide);exact Or.inl ⟨.int .i64 (pl:Int),X,by simp[execOp,go_sem,RY.K hk 7 (.int .i64 (pl:Int))],(fun _=>rfl),zR,rfl⟩
   |6,rfl=>
    have hX:=qf (by decide);have zrb:=jE.out.later hX;have zrbl:=zrb.own.lt;have zq4:=tB.out.later hX;have zq4l:=zq4.own.lt;have v4:a.eval (.tmp 4)=.pointer (some ⟨q4,0,none⟩):=(hk 4 (by kernel_rfl)).trans rfl;exact Or.inl ⟨_,X,ar 41 _ rfl q4 0 v4 [.string k0,.string k1,.slice none 0 0] _ zq4.at_ Tryz.underlying41 rfl (by kernel_rfl),(fun _=>rfl),zR,rfl⟩
   |7,rfl=>
    have hX:=qf (by decide);have zrb:=jE.out.later hX;have zrbl:=zrb.own.lt;have zq4:=tB.out.later hX;have zq4l:=zq4.own.lt;have e85:a.tmps[85]?.getD undef=.agg #[.string k0,.string k1,.slice none 0 0]:=(RY.af a 85).trans (hd 6 _ 85 rfl rfl ⟨⟨6,.data⟩,by simp,rfl,rfl⟩ (by decide) (by decide) (by decide));exact Or.inl ⟨.slice (some ⟨X.heap.size,0,none⟩) 1 1,X.alloc (.cells #[.string k0,.string k1,.slice none 0 0] 41),by simp[execOp,go_sem,e85],(fun h=>absurd h (by decide)),ae zR _,X.heap.size,rfl,Dk X wq.heap.size _ _ _ hX.size⟩
   |8,ho=>
    exact absurd rfl zB
   |9,rfl=>
    have e79:a.tmps[79]?.getD undef=.pointer (some ⟨rb,0,none⟩):=(RY.af a 79).trans (hd 0 _ 79 rfl rfl ⟨⟨0,.data⟩,by simp,rfl,rfl⟩ (by decide) (by decide) (by decide));exact Or.inl ⟨.pointer (some ⟨rb,0,none⟩),X,by simp[execOp,go_sem,e79],(fun _=>rfl),zR,rfl⟩
   |10,rfl=>
    have e88:a.tmps[88]?.getD undef=.pointer (some ⟨rb,0,none⟩):=(RY.af a 88).trans (hd 9 _ 88 rfl rfl ⟨⟨9,.data⟩,by simp,rfl,rfl⟩ (by decide) (by decide) (by decide));exact Or.inl ⟨.pointer (some ⟨rb,5,none⟩),X,by simp[execOp,go_sem,e88],(fun _=>rfl),zR,rfl⟩
   |n+11,ho=>omega
  ·intro a X hX hk hd;have e83:a.tmps[83]?.getD undef=.slice p1 n q:=(RY.af a 83).trans (hd 4 _ 83 rfl rfl ⟨⟨4,.data⟩,by simp,rfl,rfl⟩ (by decide) (by decide));have e84:a.tmps[84]?.getD undef=.int .i64 (pl:Int):=(RY.af a 84).trans (hd 5 _ 84 rfl rfl ⟨⟨5,.data⟩,by simp,rfl,rfl⟩ (by decide) (by decide));obtain⟨g86,q86,RQ⟩:=hd 7 _ 86 rfl rfl ⟨⟨7,.data⟩,by simp,rfl,rfl⟩ (by decide) (by decide);have e86:a.tmps[86]?.getD undef=.slice (some ⟨g86,0,none⟩) 1 1:=(RY.af a 86).trans q86;refine⟨101,#[.slice p1 n q,.int .i64 (pl:Int),.slice (some ⟨g86,0,none⟩) 1 1],by simp[go_sem,e83,e84,e86],(Ka (rb+1) X p1 n q cs [.string k0,.string k1,.slice none 0 0] 1 (bK LN.out (Frm.aG (S:=fun _=>False) hX) (fun _ _ h=>h)) wq.heap.size (.slice (some ⟨g86,0,none⟩) 1 1) mO.out (by simp[Value.oneCell']) RQ (by decide) (fun g hg=>I2.out g hg) pl tx.out (by have:=SM.out;omega) (Nat.le_trans lM.out hX.size)).mono ?_⟩;rintro e W' ⟨g',q',rfl,h1,h2,h3⟩;exact⟨_,rfl,g',q',rfl,h1,((Frm.aG hX).trans (h2.frm.mono (fun b ⟨g,e1,e2⟩=>by rw[e1,e2];rfl))),h3.imp id (fun h=>Nat.le_trans hX.size h)⟩
  ·intro a X vals Bh hk Ip hd;obtain⟨g',q',e1,h1,h2,h3⟩:=Bh;have e87:a.eval (.tmp 87)=_:=(hd 8 _ 87 rfl rfl ⟨⟨8,.data⟩,by simp,rfl,rfl⟩ (by decide)).trans e1;have e89:a.eval (.tmp 89)=.pointer (some ⟨rb,5,none⟩):=(hd 10 _ 89 rfl rfl ⟨⟨10,.data⟩,by simp,rfl,rfl⟩ (by decide)).trans (Ip 10 (by decide));have hb:=jE.out.frm h2 (fun e=>by have:=(cC LN.out e).1;omega);have hc:=hb.get 5 _ rfl;have hl:=hb.own.lt;have hf:=hb.own.frozen 5;have e87':a.tmps[87]?.getD undef=_:=(RY.af a 87).trans e87;have e89':a.tmps[89]?.getD undef=_:=(RY.af a 89).trans e89;refine⟨X.setCell ⟨rb,5,none⟩ (.slice (some ⟨g',0,none⟩) (n+1) q'),by simp[execOp,go_sem,e87',e89',hc,hf],g',q',hb.set 5 _ (by simp), ?_, ?_,h3⟩
   ·exact bK h1 ((Marks.sc (S:=fun b=>b=rb) X rfl 5 _).frm (fun _ h=>h)) (fun g hg e=>by have:=(cC h1 hg).1;omega)
   ·exact(h2.mono (fun _ h=>Or.inr h)).trans ((Marks.sc (S:=fun b=>b=rb) X rfl 5 _).frm (fun _ h=>Or.inl h))
  ·intro vs X Hi;simp only[RY.aC,Act.put,List.setIfInBounds_toArray,List.set_cons_zero,List.set_cons_succ];generalize vs 79=s79,vs 80=s80,vs 81=s81,vs 82=s82,vs 83=s83,vs 84=s84,vs 85=Pr,vs 86=s86,vs 87=s87,vs 88=s88,vs 89=s89;obtain⟨g',q',ic,sf,qh,qV⟩:=Hi;have KW:Hid (p1=some ⟨g',0,none⟩∨w.heap.size≤g'):=qV.imp id (fun h=>Nat.le_trans zI.out.size h);have nP:=uh (And.intro ic (And.intro sf qh));have d6:=ic.get 6 _ rfl;have dl:=ic.own.lt;have df:=ic.own.frozen 6;clear ic sf qh qV;go_wp2;go_ret;refine Or.inr ⟨ib.out,rfl,g',q',nP.out.1.set 6 _ (by simp), ?_, ?_,KW.out⟩
   ·exact bK nP.out.2.1 ((Marks.sc (S:=fun b=>b=rb) X rfl 6 _).frm (fun _ h=>h)) (fun g hg e=>by have:=(cC nP.out.2.1 hg).1;omega)
   ·exact((Frm.aG zI.out).trans nP.out.2.2).trans ((Marks.sc (S:=fun b=>b=rb) X rfl 6 _).frm (fun _ h=>Or.inl h))
end Go.Proofs.YtopjjknojnfhmaaGreatDoor
