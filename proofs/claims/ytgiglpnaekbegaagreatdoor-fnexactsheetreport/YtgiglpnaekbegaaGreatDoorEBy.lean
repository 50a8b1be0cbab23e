import Derived.Deep.AppendLies
import Derived.Laws.AppendOwn
import Derived.Deep.AppendSrc
import Derived.Lib.AppendZeros
import Derived.Laws.OwnMore
import Derived.Test.YtgiglpnaekbegaaGreatDoorProg
import Derived.RowKit
import Derived.WalkKit
import Derived.WalkSpells
import Derived.WalkLawsBesides
import Derived.Laws.IdiomStrings
import Derived.Deep.RegionHeldLaw
import Derived.Test.YtgiglpnaekbegaaGreatDoorUL
import Derived.Test.YtgiglpnaekbegaaGreatDoorEPl
import Derived.Test.YtgiglpnaekbegaaGreatDoorRgF
namespace Go.Proofs.YtgiglpnaekbegaaGreatDoor
set_option maxRecDepth 8000
set_option maxHeartbeats 40000000
open Go.RowKit Go.Deep
structure Gr (W:World) (lo:Nat) (t:TypeId) (sh:List Sh) (v:Value) (n:Nat) (G:List Nat) (es:List Dt) (xs:List Value):Prop where
 row:W.ownsRow lo t sh.length v n xs
 rep:Rep W false (bF n sh) G es xs
 nd:G.Nodup
 fr:∀ b∈G,lo≤b∧v.ownBlock≠some b
theorem aW {W:World} {lo e size m:Nat} {v:Value} {xs:List Value} (h:W.ownsRow lo e size v m xs) {g:Nat} (hg:v.ownBlock=some g):lo≤g∧g<W.heap.size:=by
 rcases h.2 with⟨q,_⟩|⟨g',cap,cur,q1,q2,q3,_⟩
 ·rw[q]at hg;cases hg
 ·rw[q1]at hg;injection hg with hg;subst hg;exact⟨q2,(Xh.1 q3).1⟩
theorem cD {w w':World} {lo:Nat} {e:TypeId} {size:Nat} {v:Value} {n:Nat} {xs:List Value} (h:w.ownsRow lo e size v n xs) (hb:Bel w w'):w'.ownsRow lo e size v n xs:=by
 refine⟨h.1,h.2.imp id ?_⟩;rintro⟨g,cap,cur,h1,h2,h3,h4⟩;exact⟨g,cap,cur,h1,h2,(hb.block g (Xh.1 h3).1).trans h3,h4⟩
theorem Gr.later {W W':World} {lo:Nat} {t:TypeId} {sh:List Sh} {v:Value} {n:Nat} {G:List Nat} {es:List Dt} {xs:List Value} (h:Gr W lo t sh v n G es xs) (hb:Bel W W'):Gr W' lo t sh v n G es xs:=
 ⟨cD h.row hb,h.rep.later hb,h.nd,h.fr⟩
theorem Gr.nil (W:World) (lo:Nat) (t:TypeId) (sh:List Sh):Gr W lo t sh (.slice none 0 0) 0 [] [] []:=
 ⟨⟨by simp,No ⟨rfl,rfl⟩⟩,.nil,XL,by simp⟩
theorem Gr.emp {W:World} {lo g:Nat} {t:TypeId} (sh:List Sh) (hg:W.heap[g]? =some (.cells #[] t (0,0))) (hl:lo≤g):Gr W lo t sh (.slice (some ⟨g,0,none⟩) 0 0) 0 [] [] []:=
 ⟨⟨by simp,Xk ⟨g,0,#[],rfl,hl,hg,zE,by decide,by simp,by simp⟩⟩,.nil,XL,by simp⟩
theorem Rep.grown {W W':World} {tt:Bool} {ss:List Sh} {F:List Nat} {ds:List Dt} {cs:List Value} {row:Option Nat} (h:Rep W tt ss F ds cs) (hg:W.grownBy W' row):(∀ b∈F,row≠some b)→Rep W' tt ss F ds cs:=by
 induction h with
 |nil=>intro _;exact .nil
 |i n h ih=>intro hS;exact .i n (ih hS)
 |b n h ih=>intro hS;exact .b n (ih hS)
 |s n h ih=>intro hS;exact .s n (ih hS)
 |emp t sh a ht h ih=>intro hS;exact .emp t sh a ht (ih hS)
 |row t sh p o n c u m vs es G ho hm ht hn hr he h ih1 ih=>
  intro hS;have hb:W'.heap[p]? =W.heap[p]? :=hg.block p ho.lt (fun e=>hS p (by simp) e.symm);refine .row t sh p o n c u m vs es G ?_ hm ht hn (fF hr fun j _=> ?_) (ih1 fun q hq=>hS q (by simp[hq])) (ih fun q hq=>hS q (by simp[hq]))
  ·obtain⟨cs,h1,h2⟩:=ho;exact⟨cs,hb.trans h1,h2⟩
  ·exact Yg (a:=⟨p,o+j,none⟩) hb
theorem dF {a W W':World} {row:Option Nat} (h:Bel a W) (hg:W.grownBy W' row) (hr:∀ b,row=some b→a.heap.size≤b):Bel a W':=
 ⟨hg.os.trans h.os,hg.tape.trans h.tape,hg.output.trans h.output,Xg h.size hg.size,fun p hp=>(hg.block p (zL hp h.size) (fun e=>by have:=hr p e.symm;omega)).trans (h.block p hp)⟩
theorem au.grown {W W':World} {row:Option Nat} {p:Nat} {cs:List Value} (h:au W p cs) (hg:W.grownBy W' row) (hn:row≠some p):au W' p cs:=
 ⟨zL h.lt hg.size,fF h.at_ fun j _=>Yg (a:=⟨p,0+j,none⟩) (hg.block p h.lt (fun e=>hn e.symm))⟩
theorem Gr.shape {W:World} {lo:Nat} {t:TypeId} {sh:List Sh} {v:Value} {n:Nat} {G:List Nat} {es:List Dt} {xs:List Value} (h:Gr W lo t sh v n G es xs):∃ a c,v=.slice a n c:=by
 rcases h.row.2 with⟨e,rfl⟩|⟨_,_,_,e,_⟩
 ·exact⟨_,_,e⟩
 ·exact⟨_,_,e⟩
theorem qP (W:World) (cs:Array Value) (t:TypeId):∀ j u,cs.toList[j]? =some u→(W.alloc (.cells cs t)).cell? ((⟨W.heap.size,0,none⟩:Addr).add j)=some u:=fun j u hu=>by
 rw[Addr.add_mid,Xr];refine(World.cell?_alloc_at _ _ _ _ rfl).trans ?_;simpa using hu
theorem Gr.push {W w2 w3:World} {lo:Nat} {t:TypeId} {sh:List Sh} {v:Value} {n:Nat} {G F:List Nat} {es e:List Dt} {xs c:List Value} {g cap:Nat} (h:Gr W lo t sh v n G es xs) (hb:Bel W w2) (hr:Rep w2 false sh F e c) (l5:F.Nodup) (hf:∀ b∈F,W.heap.size≤b) (cX:lo≤W.heap.size)
  (dN:w3.ownsRow lo t sh.length (.slice (some ⟨g,0,none⟩) (n+1) cap) (n+1) (xs++c)) (hg:w2.grownBy w3 v.ownBlock) {H:Nat} (hH:w2.heap.size≤H) (yY:v.ownBlock=some g∨g=H):
  Gr w3 lo t sh (.slice (some ⟨g,0,none⟩) (n+1) cap) (n+1) (G++F) (es++e) (xs++c):=by
 have h2:=h.later hb;have hvF:∀ b∈F,v.ownBlock≠some b:=fun b hb e=>by have:=(aW h.row e).2;have:=hf b hb;omega
 refine⟨dN, ?_, ?_, ?_⟩
 ·rw[gx];exact(h2.rep.grown hg fun b hb=>(h2.fr b hb).2).app (hr.grown hg hvF)
 ·rw[XY];exact⟨h.nd,l5,fun a ha b hb e=>by have:=h.rep.lt a ha;have:=hf b hb;omega⟩
 ·intro b hb;rcases XC.1 hb with hb|hb
  ·refine⟨(h2.fr b hb).1,fun e=> ?_⟩;have e1:g=b:=by injection e
   rcases yY with q|q
   ·exact(h2.fr b hb).2 (by rw[q,e1])
   ·have:=h2.rep.lt b hb;omega
  ·refine⟨Xg cX (hf b hb),fun e=> ?_⟩;have e1:g=b:=by injection e
   rcases yY with q|q
   ·exact hvF b hb (by rw[q,e1])
   ·have:=hr.lt b hb;omega
theorem Gr.done {W:World} {lo:Nat} {t:TypeId} {sh:List Sh} {v:Value} {n:Nat} {G:List Nat} {es:List Dt} {xs:List Value} (h:Gr W lo t sh v n G es xs):∃ F,Rep W false [.row t sh] F [.row n es] [v]∧F.Nodup∧∀ b∈F,lo≤b:=by
 rcases h.row.2 with⟨rfl,rfl⟩|⟨g,cap,cur,rfl,q2,q3,q4,q5,q6,q7⟩
 ·have hr:=h.rep;rw[ff]at hr;cases hr
  exact⟨[],.emp _ _ none rfl .nil,XL,by simp⟩
 ·refine⟨g::(G++[]),.row t sh g 0 n cap t (cap*sh.length) xs es G ⟨cur,q3,q6⟩ (by omega) (by simp) ⟨Xg q4 q5,q4⟩ ?_ h.rep .nil, ?_, ?_⟩
  ·intro j x hx;rw[← q7]at hx;have hl:j<n*sh.length:=by have:=(Xn.1 hx).1;rw[Xo]at this;omega
   rw[XM hl]at hx;rw[Xr];simp only[World.cell?,q3];simpa using hx
  ·rw[Xl,Yi];exact⟨fun e=>(h.fr g e).2 rfl,h.nd⟩
  ·intro b hb;rw[Xl]at hb;rcases XD.1 hb with rfl|hb
   ·exact q2
   ·exact(h.fr b hb).1
theorem jx {α:Type} (f:α→List Dt) (k:Nat) (hf:∀ x,(f x).length=k):∀ l:List α,(l.flatMap f).length=l.length*k
 |[]=>by simp
 |x::xs=>by rw[XP,At,hf,jx f k hf xs,Xm,Yh];omega
theorem jT {α:Type} (d:α) (f:α→List Dt) (k:Nat) (hf:∀ x,(f x).length=k) (l:List α) (q:Nat) (hq:q<l.length):el k q (l.flatMap f)=f (l.getD q d):=by
 have e:l=l.take q++(l.getD q d::l.drop (q+1)):=by
  have:l.getD q d=l[q]:=by simp[hq]
  rw[this,List.getElem_cons_drop,YK]
 have hl:((l.take q).flatMap f).length=q*k:=by rw[jx f k hf,Xo];congr 1;omega
 have e2:l.flatMap f=(l.take q).flatMap f++(f (l.getD q d)++(l.drop (q+1)).flatMap f):=by
  conv=>lhs;rw[e]
  rw[Xv,XP]
 rw[e2];exact zS hl (hf _)
def dL:List Sh→Bool
 |[]=>true
 |.row _ _::_=>false
 |.i::ss=>dL ss
 |.b::ss=>dL ss
 |.s::ss=>dL ss
theorem Raw.flat {w:World} {ss:List Sh} {ds:List Dt} {cs:List Value} (h:Raw w ss ds cs):dL ss=true→∀ w' tt,Rep w' tt ss [] ds cs:=by
 induction h with
 |nil=>intro _ _ _;exact .nil
 |i n h ih=>intro hf w' tt;rw[dL]at hf;exact .i n (ih hf w' tt)
 |b n h ih=>intro hf w' tt;rw[dL]at hf;exact .b n (ih hf w' tt)
 |s n h ih=>intro hf w' tt;rw[dL]at hf;exact .s n (ih hf w' tt)
 |emp t sh a c h ih=>intro hf;rw[dL]at hf;cases hf
 |row t sh p o n c vs es hp hn hr he h ih1 ih=>intro hf;rw[dL]at hf;cases hf
theorem lu:∀ (a b:List Sh),dL (a++b)=(dL a&&dL b)
 |[],b=>by simp[dL]
 |.row t sh::ss,b=>by rw[Yj,dL,dL];rfl
 |.i::ss,b=>by rw[Yj,dL,dL,lu ss b]
 |.b::ss,b=>by rw[Yj,dL,dL,lu ss b]
 |.s::ss,b=>by rw[Yj,dL,dL,lu ss b]
theorem mH {sh:List Sh} (h:dL sh=true):∀ n,dL (bF n sh)=true
 |0=>by rw[ff,dL]
 |n+1=>by rw[dk,lu,h,mH h n];rfl
def JW (W:World) (lo:Nat) (e:TypeId) (v:Value):Prop:=v=.slice none 0 0∨∃ g,v=.slice (some ⟨g,0,none⟩) 0 0∧lo≤g∧W.heap[g]? =some (.cells #[] e (0,0))
theorem JW.owns {W:World} {lo:Nat} {e:TypeId} {v:Value} (h:JW W lo e v) (size:Nat):W.ownsRow lo e size v 0 []:=by
 rcases h with rfl|⟨g,rfl,hl,hg⟩
 ·exact⟨by simp,No ⟨rfl,rfl⟩⟩
 ·exact⟨by simp,Xk ⟨g,0,#[],rfl,hl,hg,zE,by decide,by simp,by simp⟩⟩
theorem kO {P:Program} (lo:Nat) (t ty e t0:TypeId) (size bytes:Nat) (z:Value) (ht:P.underlying t=some (.slice e)) (hinf:(P.info? e).map (fun i=>(i.zero,i.size,i.bytes))=some (some z,size,bytes)) (Av:z.cells.size=size) (hs0:0<size) (hb:bytes≤1000)
  (sh:List Sh) (hk:sh.length=size) (hfl:dL sh=true) (W:World) (v0:Value) (Mj:JW W lo e v0) (cX:lo≤W.heap.size) (n:Nat) (es:List Dt) (v:Value) (h:Raw W [.row t0 sh] [.row n es] [v]) (hn:n≤4194304):
  ∃ v' W' xs,(Builtin.append_ #[t,t] ty #[v0,v]).run P W=.ok v' W'∧Gr W' lo e sh v' n [] es xs∧Bel W W':=by
 obtain⟨i,hi,ei⟩:=XH.1 hinf;simp only[Prod.mk.injEq]at ei;obtain⟨hz,hs,eS⟩:=ei;by_cases h0:n=0
 ·subst h0;have UC:es=[]:=Xs (by obtain⟨_,_,_,q,t,_⟩:=h.typ.c_r;injection q with e1 e2;injection e1 with e3 e4;subst e3;subst e4;have:=t.rows;omega);subst UC;obtain⟨a,c,rfl⟩:=h.aT;have wt:Src P i.size t (.slice a 0 c) 0 [] W:=by
   cases a with
   |none=>exact Src.ofNil W ht c
   |some ad=>exact Src.ofSlice W ht ad 0 c [] (by simp) (fun j u h=>by simp at h) (fun u h=>by cases h)
  refine⟨v0,W,[], ?_,⟨by rw[hk];exact Mj.owns size,.nil,XL,by simp⟩,zR⟩;rcases Mj with rfl|⟨g,rfl,_,_⟩
  ·have h1:=wt.len;have h2:=wt.cells;simp[Builtin.append_,run_underlying ht,sizeOf,typeInfo,hi,h1,h2]
  ·have:=run_append_room_src (P:=P) W t t ty e i ht hi g 0 0 0 (.slice a 0 c) 0 [] wt (by omega) (fun j h=>by simp at h) (fun j h=>by simp at h);rw[this];rfl
 ·rcases h.slice with⟨e0,_⟩|⟨p,o,c,rfl,hp,gF,vs,hr,hR⟩
  ·exact absurd e0 h0
  have hl:vs.length=n*size:=by rw[hR.len,bU,hk]
  have p5:n*bytes≤4194304*1000:=Nat.mul_le_mul hn hb;obtain⟨v',W',bC,dN,eC,_⟩:=run_append_own (P:=P) (w:=W) lo t ty e i z size bytes ht hi hz hs eS Av hs0 v0 0 [] (Mj.owns size) ⟨p,o,none⟩ n c vs hl (fun j u hu=>by rw[Addr.add_mid];exact hr j u hu) hR.one (by unfold maxLen;omega) (by rw[Xr];omega) cX;rw[Xr,Yn]at dN;refine⟨v',W',vs,bC,⟨by rw[hk];exact dN,hR.flat (mH hfl n) W' false,XL,by simp⟩, ?_⟩;rcases Mj with rfl|⟨g,rfl,iu,pV⟩
  ·exact⟨eC.os,eC.tape,eC.output,eC.size,fun q hq=>eC.block q hq (by simp[Value.ownBlock])⟩
  ·have P2:W'.heap[g]? =W.heap[g]? :=by
    have gh:g<W.heap.size:=(Xh.1 pV).1;have Ci:=run_append_grow (P:=P) W t ty e i z ht hi hz ⟨g,0,none⟩ 0 0 [] (by simp) (fun j v h=>by simp at h) ⟨p,o,none⟩ n c vs (by rw[hs];exact hl) (fun j u hu=>by rw[Addr.add_mid];exact hr j u hu) (by omega) (by omega) (growslice_fits (by omega) (by rw[Xr,eS];omega));rw[Ci]at bC;injection bC with _ hw
    rw[← hw];exact(af (XF zR) _:Bel W _).block g gh
   refine⟨eC.os,eC.tape,eC.output,eC.size,fun q hq=> ?_⟩;by_cases eq:q=g
   ·subst eq;exact P2
   ·exact eC.block q hq (by simp[Value.ownBlock,eq])
theorem aQ {P:Program} {o:Oper} {a:Act} {W W':World} {v x v':Value} (s y:Operand) (t:TypeId) (ij:o.op=Op.call {callee:=Callee.builtin Builtin.append,args:=#[s,y],argTypes:=#[t,t]}) (hs:a.eval s=v) (hx:a.eval y=x)
  (bC:(Builtin.append_ #[t,t] o.type #[v,x]).run P W=.ok v' W'):(execOp a.eval o).run P W=.ok (.value v') W':=by
 simp[execOp,ij,resolve,invoke,builtin,hs,hx,bC,Result.andThen]
theorem mc {P:Program} (t ty e:TypeId) (size bytes:Nat) (z:Value) (ht:P.underlying t=some (.slice e)) (hinf:(P.info? e).map (fun i=>(i.zero,i.size,i.bytes))=some (some z,size,bytes)) (Av:z.cells.size=size) (hb:bytes≤1000)
  (sh:List Sh) (hk:sh.length=size) (W:World) {F:List Nat} {n:Nat} {es:List Dt} {v:Value} (h:Rep W false [.row e sh] F [.row n es] [v]) (l5:F.Nodup) (hn:n≤4194304) {F':List Nat} {d:List Dt} {c':List Value} (ad:Addr) (hd:Rep W false sh F' d c') (Tv:F'.Nodup) (hdj:∀ b∈F',b ∉ F)
  (wt:∀ j u,c'[j]? =some u→W.cell? (ad.add j)=some u):
  ∃ v' W' F'' row,(Builtin.append_ #[t,t] ty #[v,.slice (some ad) 1 1]).run P W=.ok v' W'∧Rep W' false [.row e sh] F'' [.row (n+1) (es++d)] [v']∧F''.Nodup∧(∀ b∈F'',b∈F∨b∈F'∨b=W.heap.size)∧W.grownBy W' row∧(∀ b,row=some b→b∈F):=by
 obtain⟨i,hi,ei⟩:=XH.1 hinf;simp only[Prod.mk.injEq]at ei;obtain⟨hz,hs,eS⟩:=ei;have hc:c'.length=1*i.size:=by rw[hd.len,hk,hs,Nat.one_mul]
 have p5:(n+1)*bytes≤4194305*1000:=Nat.mul_le_mul (by omega) hb;have hsr:Src P i.size t (.slice (some ad) 1 1) 1 c' W:=Src.ofSlice W ht ad 1 1 c' hc wt (fun u hu=>hd.raw.one u hu);have bq:=hd.lt;have grow:∀ (base:Option Addr) (cap:Nat) (vs:List Value) (G:List Nat),cap<n+1→vs.length=n*i.size→(Builtin.firstCells i.size n (.slice base n cap)).run P W.drew=.ok vs.toArray W.drew→Rep W false (bF n sh) G es vs→G.Nodup→(∀ b∈G,b∈F)→v=.slice base n cap→
   ∃ v' W' F'' row,(Builtin.append_ #[t,t] ty #[v,.slice (some ad) 1 1]).run P W=.ok v' W'∧Rep W' false [.row e sh] F'' [.row (n+1) (es++d)] [v']∧F''.Nodup∧(∀ b∈F'',b∈F∨b∈F'∨b=W.heap.size)∧W.grownBy W' row∧(∀ b,row=some b→b∈F):=by
  intro base cap vs G AF ik hfc hR LZ wK hv;subst hv;have hr:=run_append_grow_src (P:=P) W t t ty e i z ht hi hz base n cap vs hfc (.slice (some ad) 1 1) 1 c' hsr AF (by omega) (growslice_fits (by omega) (by rw[eS];omega));have hge:=grownCap_ge W (n+1) cap e;have hle:=grownCap_le_maxLen W (n+1) cap e (by unfold maxLen;omega);have jo:Bel W (W.drew.alloc (.cells ((vs++c').toArray++Builtin.zeroCells z.cells (grownCap W (n+1) cap e - (n+1))) e)):=af (XF zR) _;have pc:(vs++c').length=(n+1)*i.size:=by rw[At,ik,hc,← Yh]
  refine⟨_,_,W.heap.size::((G++F')++[]),none,hr, ?_, ?_, ?_,⟨jo.os,jo.tape,jo.output,jo.size,fun k hk _=>jo.block k hk⟩,fun b hb=>by cases hb⟩
  ·refine Rep.row e sh W.heap.size 0 (n+1) (grownCap W (n+1) cap e) e (grownCap W (n+1) cap e*sh.length) (vs++c') (es++d) (G++F') ⟨_,heap_alloc_new W.drew _, ?_⟩ (by omega) (by simp) ⟨by unfold maxLen;omega,hge⟩ ?_ ?_ .nil
   ·rw[Yv,size_zeroCells,Av,hk,Yx,pc,hs,← Yh];congr 1;omega
   ·intro j x hx;rw[Xr];refine(World.cell?_alloc_at _ _ _ _ rfl).trans ?_;have hj:j<(vs++c').length:=(Xn.1 hx).1;rw[Array.getElem?_append_left (by simpa using hj)];simpa using hx
   ·rw[gx];exact(hR.later jo).app (hd.later jo)
  ·rw[Xl,Yi];refine⟨fun hb=> ?_, ?_⟩
   ·rcases XC.1 hb with hb|hb
    ·have:=hR.lt _ hb;omega
    ·have:=bq _ hb;omega
   ·rw[XY];exact⟨LZ,Tv,fun a ha b hb q=>hdj b hb (by rw[← q];exact wK a ha)⟩
  ·intro b hb;rw[Xl]at hb;rcases XD.1 hb with rfl|hb
   ·exact Xk (Xk rfl)
   ·rcases XC.1 hb with hb|hb
    ·exact No (wK b hb)
    ·exact Xk (No hb)
 rcases h.slice with⟨_,rfl,rfl,rfl,a,rfl⟩|⟨p,o,c,u,m,G,rfl,rfl,gF,ho,mL,_,vs,hr,hR⟩
 ·refine grow a 0 [] [] (by omega) (by simp) ?_ .nil XL (by simp) rfl;cases a with
  |none=>exact run_firstCells_none W.drew i.size 0 0 0
  |some ad2=>exact run_firstCells_some W.drew i.size 0 ad2 0 0 [] (by simp) (fun j u h=>by simp at h)
 ·have ik:vs.length=n*i.size:=by rw[hR.len,bU,hk,hs]
  by_cases hroom:n+1≤c
  ·have WA:o+(n+1)*i.size≤m:=by
    have h1:=XJ i.size hroom;have h2:=gF.2.2;rw[hk,← hs]at h2;omega
   have kZ:(n+1)*i.size=n*i.size+i.size:=by rw[Yh,Nat.one_mul]
   have k4:=run_append_room_src (P:=P) W t t ty e i ht hi p o n c (.slice (some ad) 1 1) 1 c' hsr hroom (fun j hj=>by
    obtain⟨x,hx⟩:=ho.cell (o+n*i.size+j) (by omega);rw[hx];rfl) (fun j hj=>ho.frozen _)
   rw[Yi]at l5;have hm:Marks (fun b=>b=p) W (W.setCells p (o+n*i.size) c'):=bf (S:=fun b=>b=p) rfl _ _ _;refine⟨_,_,p::((G++F')++[]),some p,k4, ?_, ?_, ?_,⟨hm.os,hm.tape,hm.output,hm.size,fun k hk dr=>hm.block k hk (fun q=>dr (by rw[q]))⟩,fun b hb=>by injection hb with hb;rw[← hb];simp⟩
   ·refine Rep.row e sh p o (n+1) c u m (vs++c') (es++d) (G++F') (ig _ _ _ ho) gF.2.2 (by simp) ⟨by unfold maxLen;omega,hroom⟩ (qN ?_ ?_) ?_ .nil
    ·exact World.rangeAt_setCells_apart hr _ _ _ (Xk (No (by omega)))
    ·rw[ik];exact World.rangeAt_setCells_same _ _ _ _ (aX ho _ _ (by omega))
    ·rw[gx];refine(hR.cO hm fun b hb q=>l5.1 (by rw[← q];exact hb)).app (hd.cO hm fun b hb q=>hdj b hb (by rw[q];simp))
   ·rw[Xl,Yi];refine⟨fun hb=> ?_, ?_⟩
    ·rcases XC.1 hb with hb|hb
     ·exact l5.1 hb
     ·exact hdj _ hb (by simp)
    ·rw[XY];exact⟨l5.2,Tv,fun a ha b hb q=>hdj b hb (by rw[← q];exact Yt _ ha)⟩
   ·intro b hb;rw[Xl]at hb;rcases XD.1 hb with rfl|hb
    ·exact No (by simp)
    ·rcases XC.1 hb with hb|hb
     ·exact No (Yt _ hb)
     ·exact Xk (No hb)
  ·rw[Yi]at l5;exact grow (some ⟨p,o,none⟩) c vs G (by omega) ik (run_firstCells_some W.drew i.size n ⟨p,o,none⟩ n c vs ik (fun j x hx=>by rw[Addr.add_mid];simpa using hr j x hx)) hR l5.2 (fun b hb=>Yt _ hb) rfl
structure aA (W:World) (p:Nat) (u:TypeId) (cs:List Value):Prop where
 own:aN W p u cs.length
 at_:W.rangeAt p 0 cs
theorem aA.later {W W':World} {p:Nat} {u:TypeId} {cs:List Value} (h:aA W p u cs) (hb:Bel W W'):aA W' p u cs:=⟨h.own.later hb,aj h.at_ h.own.lt hb⟩
theorem aA.new (W:World) (cs:List Value) (u:TypeId) (p:Nat) (hp:p=W.heap.size):aA (W.alloc (.cells cs.toArray u)) p u cs:=
 ⟨aN.eL W _ _ _ _ (by simp) hp,(au.new W cs.toArray u p hp).at_⟩
theorem aA.get {W:World} {p:Nat} {u:TypeId} {cs:List Value} (h:aA W p u cs) (j:Nat) (v:Value) (hv:cs[j]? =some v):W.cell? ⟨p,j,none⟩=some v:=by
 have:=h.at_ j v hv;rwa [Xr]at this
theorem aA.mks {W W':World} {S:Nat→Prop} {p:Nat} {u:TypeId} {cs:List Value} (h:aA W p u cs) (hb:Marks S W W') (hp:¬ S p):aA W' p u cs:=
 ⟨hb.own _ _ _ h.own,fF h.at_ fun _ _=>hb.cell h.own.lt hp _⟩
theorem aA.set {W:World} {p:Nat} {u:TypeId} {cs:List Value} (h:aA W p u cs) (j:Nat) (x:Value) (hj:j<cs.length):aA (W.setCell ⟨p,j,none⟩ x) p u (cs.set j x):=by
 refine⟨by rw[YE];exact h.own.setCell _ _,fun i v hv=> ?_⟩;rw[Xr];rw[List.getElem?_set]at hv;by_cases e:j=i
 ·subst e;rw[if_pos rfl,if_pos hj]at hv;injection hv with hv;subst hv
  exact QN h.own _ hj _
 ·rw[if_neg e]at hv;exact(QC _ _ _ _ _ _ (Xk (fun q=>e q.symm))).trans (h.get i v hv)
theorem aA.other {W:World} {p q:Nat} {u:TypeId} {cs:List Value} (h:aA W p u cs) (hn:p≠q) (j:Nat) (x:Value):aA (W.setCell ⟨q,j,none⟩ x) p u cs:=
 h.mks (Marks.sc (S:=fun b=>b=q) W rfl j x) hn
theorem aA.Ud {W:World} {p:Nat} {u:TypeId} {x y z:List Value} (h:aA W p u (x++(y++z))) (y':List Value) (hl:y'.length=y.length):aA (W.setCells p x.length y') p u (x++(y'++z)):=by
 have e1:(x++(y'++z)).length=(x++(y++z)).length:=by simp[hl]
 obtain⟨h1,h2⟩:=gU h.at_;obtain⟨_,h3⟩:=gU h2;rw[Xr]at h2 h3;refine⟨by rw[e1];exact ig _ _ _ h.own,qN ?_ (qN ?_ ?_)⟩
 ·exact World.rangeAt_setCells_apart h1 _ _ _ (Xk (No (by omega)))
 ·rw[Xr];exact World.rangeAt_setCells_same _ _ _ _ (aX h.own _ _ (by simp;omega))
 ·rw[Xr,hl];exact World.rangeAt_setCells_apart h3 _ _ _ (Xk (Xk (by omega)))
theorem Bp {A B:List Nat} {m:Nat} (ha:A.Nodup) (hb:B.Nodup) (h1:∀ x∈A,x<m) (h2:∀ x∈B,m≤x):(A++B).Nodup:=by
 rw[XY];exact⟨ha,hb,fun a ha b hb e=>by have:=h1 a ha;have:=h2 b hb;omega⟩
theorem J3 {A B:List Nat} {m:Nat} (h1:∀ x∈A,m≤x) (h2:∀ x∈B,m≤x):∀ x∈A++B,m≤x:=fun x hx=>(XC.1 hx).elim (h1 x) (h2 x)
theorem lh (n lo hi:Int) (w:World):
  Calls Tryz.prog 61 #[.int .i64 n,.int .i64 lo,.int .i64 hi] w fun e w'=>e=.returned (.bool (decide (lo≤n)&&decide (n≤hi)))∧w=w':=by
 by_cases h:lo≤n
 all_goals
  go_enter Tryz.func61,Tryz.ntmps61
  go_wp2;go_ret;exact⟨Pl.ar (by rw[XB];simp;try omega),rfl⟩
theorem iY (c:UInt8) (w:World):
  Calls Tryz.prog 37 #[.int .u8 c.toNat] w fun e w'=>e=.returned (.bool (Pl.ck c))∧w=w':=by
 go_enter Tryz.func37,Tryz.ntmps37
 go_wp2
 all_goals go_ret
 all_goals exact⟨Pl.ar (by rw[XB];simp[Pl.ck]at*;omega),rfl⟩
theorem Tryz.fQ:Tryz.prog.underlying 43=some (.slice 5):=by kernel_rfl
theorem Tryz.nZ:(Tryz.prog.info? 5).map (fun i=>(i.zero,i.size,i.bytes))=some (some (.int .u8 0),1,1):=by kernel_rfl
theorem i6 {P:Program} {t:TypeId} {z:Value} {n b:Nat} (h:(P.info? t).map (fun i=>(i.zero,i.size,i.bytes))=some (some z,n,b)):∃ i,P.info? t=some i∧i.zero=some z∧i.size=n∧i.bytes=b:=by
 cases hi:P.info? t with
 |none=>rw[hi]at h;cases h
 |some i=>rw[hi]at h;simp only[Option.map_some,Option.some.injEq,Prod.mk.injEq]at h;exact⟨i,rfl,h.1,h.2.1,h.2.2⟩
def By (W:World) (lo:Nat) (v:Value) (l:List UInt8):Prop:=W.ownsRow lo 5 1 v l.length (Pl.byV l)
theorem By.later {W W':World} {lo:Nat} {v:Value} {l:List UInt8} (h:By W lo v l) (hb:Bel W W'):By W' lo v l:=cD h hb
theorem By.nil (W:World) (lo:Nat):By W lo (.slice none 0 0) []:=World.ownsRow_nil ..
theorem By.emp (W:World) (lo:Nat) (h:lo≤W.heap.size):By (W.alloc (.cells #[] 5)) lo (.slice (some ⟨W.heap.size,0,none⟩) 0 0) []:=World.ownsRow_made W #[] 0 h (by decide) rfl
theorem By.made (W:World) (lo:Nat) (c:UInt8) (h:lo≤W.heap.size):By (W.alloc (.cells #[.int .u8 (c.toNat:Int)] 5)) lo (.slice (some ⟨W.heap.size,0,none⟩) 1 1) [c]:=
 ⟨by simp[Pl.byV],.inr ⟨W.heap.size,1,_,rfl,h,heap_alloc_new W _,zE,by decide,rfl,rfl⟩⟩
theorem By.shape {W:World} {lo:Nat} {v:Value} {l:List UInt8} (h:By W lo v l):∃ a c,v=.slice a l.length c:=by
 rcases h.2 with⟨e,h0⟩|⟨g,cap,_,e,_⟩
 ·exact⟨none,0,by rw[e,h0]⟩
 ·exact⟨_,_,e⟩
theorem By.str {W:World} {lo:Nat} {v:Value} {l:List UInt8} (h:By W lo v l) (h0:0<l.length):(convert 43 9 v).run Tryz.prog W=.ok (.string ⟨l.toArray⟩) W:=by
 rcases h.2 with⟨_,e⟩|⟨g,cap,cur,e,_,hg,hn,_,_,ht⟩
 ·omega
 ·rw[e];refine run_convert_bytes_back (P:=Tryz.prog) W 43 9 5 ⟨g,0,none⟩ cap l Tryz.fQ (by kernel_rfl) (by kernel_rfl) fun j hj=> ?_;have hx:(Pl.byV l)[j]? =some (.int .u8 (l[j].toNat:Int)):=by simp[Pl.byV,hj]
  have q:cur.toList[j]? =some (.int .u8 (l[j].toNat:Int)):=by rw[← hx,← ht,XO,if_pos (by omega)]
  rw[show (Addr.add ⟨g,0,none⟩ j)=⟨g,j,none⟩ by rw[Addr.add_mid,Xr]];simp only[World.cell?,hg];simpa using q
theorem By.Bt {W:World} {lo:Nat} {v:Value} {l:List UInt8} (h:By W lo v l):(convert 43 9 v).run Tryz.prog W=.ok (.string ⟨l.toArray⟩) W:=by
 rcases h.2 with⟨e1,e⟩|⟨g,cap,cur,e,_,hg,hn,_,_,ht⟩
 ·have:l=[]:=Xs e;subst this;rw[e1,run_convert_bytes_string (P:=Tryz.prog) W 43 9 5 none 0 0 Tryz.fQ (by kernel_rfl) (by kernel_rfl)];rfl
 ·rw[e];refine run_convert_bytes_back (P:=Tryz.prog) W 43 9 5 ⟨g,0,none⟩ cap l Tryz.fQ (by kernel_rfl) (by kernel_rfl) fun j hj=> ?_;have hx:(Pl.byV l)[j]? =some (.int .u8 (l[j].toNat:Int)):=by simp[Pl.byV,hj]
  have q:cur.toList[j]? =some (.int .u8 (l[j].toNat:Int)):=by rw[← hx,← ht,XO,if_pos (by omega)]
  rw[show (Addr.add ⟨g,0,none⟩ j)=⟨g,j,none⟩ by rw[Addr.add_mid,Xr]];simp only[World.cell?,hg];simpa using q
theorem By.below {W w':World} {a:World} {lo:Nat} {v:Value} {l:List UInt8} (h:By W lo v l) (hb:Bel a W) (hg:W.grownBy w' v.ownBlock) (cX:a.heap.size≤lo):Bel a w':=
 Below.grown hb hg hb.size fun q hq=>by have:=(World.ownsRow.lt h q hq).1;omega
theorem lx {w:World} {ops:Array Oper} {rest:List Oper} {o:Oper} {a:Act} {Q:Exit→Act→World→Prop} (hgd:o.guard=none) (s x:Operand)
  (ho:o.op=.call {callee:=.builtin .append,args:=#[s,x],argTypes:=#[43,43]}) (lo:Nat) (v:Value) (l:List UInt8) (hs:a.eval s=v) (dN:By w lo v l)
  (B m c:Nat) (news:List UInt8) (hx:a.eval x=.slice (some ⟨B,0,none⟩) m c) (hl:news.length=m) (hnews:∀ j u,(Pl.byV news)[j]? =some u→w.cell? ((⟨B,0,none⟩:Addr).add j)=some u)
  (hm:0<m) (DU:l.length+m≤1099511627776) (cX:lo≤w.heap.size)
  (h:∀ g cap w',By w' lo (.slice (some ⟨g,0,none⟩) (l.length+m) cap) (l++news)→w.grownBy w' v.ownBlock→wpList Tryz.prog ops Q rest (a.put o.dst (.slice (some ⟨g,0,none⟩) (l.length+m) cap)) w'):wpList Tryz.prog ops Q (o::rest) a w:=by
 obtain⟨i0,hi,dp,eV,kD⟩:=i6 Tryz.nZ;refine wpList_append_lies w hgd s x 43 ho lo 5 i0 _ 1 1 Tryz.fQ hi dp eV kD rfl (by omega) v l.length (Pl.byV l) hs dN ⟨B,0,none⟩ m c (Pl.byV news) hx (by rw[Pl.BZ,hl,Nat.mul_one]) hnews
  (fun u hu=>by obtain⟨b,_,rfl⟩:=YA.1 hu;rfl) hm (by unfold maxLen;omega) (by omega) cX _ rfl fun g cap w' q1 q2 _ _=>h g cap w' ?_ q2
 unfold By;rw[Pl.vj,At,hl];exact q1
theorem zn {w:World} {lo:Nat} {v:Value} {l:List UInt8} (dN:By w lo v l) (ty:TypeId)
  (B m c:Nat) (news:List UInt8) (hl:news.length=m) (cs:Array Value) (jn:cs.toList=Pl.byV news) (hB:w.heap[B]? =some (.cells cs 5 (0,0)))
  (hm:0<m) (DU:l.length+m≤1099511627776) (cX:lo≤w.heap.size):
  ∃ g cap w',(Builtin.append_ #[43,43] ty #[v,.slice (some ⟨B,0,none⟩) m c]).run Tryz.prog w=.ok (.slice (some ⟨g,0,none⟩) (l.length+m) cap) w'∧
   By w' lo (.slice (some ⟨g,0,none⟩) (l.length+m) cap) (l++news)∧w.grownBy w' v.ownBlock:=by
 obtain⟨i0,hi,dp,eV,kD⟩:=i6 Tryz.nZ;obtain⟨g,cap,w',h1,h2,h3,_⟩:=run_append_lies (P:=Tryz.prog) w 43 ty lo 5 i0 _ 1 1 Tryz.fQ hi dp eV kD rfl (by omega) v l.length (Pl.byV l) dN ⟨B,0,none⟩ m c (Pl.byV news) (by rw[Pl.BZ,hl,Nat.mul_one]) (by rw[← jn];exact World.news_of_block hB)
  (fun u hu=>by obtain⟨b,_,rfl⟩:=YA.1 hu;rfl) hm (by unfold maxLen;omega) (by omega) cX _ rfl
 refine⟨g,cap,w',h1, ?_,h3⟩;unfold By;rw[Pl.vj,At,hl];exact h2
def GV:ByteArray:=⟨#[48,49,50,51,52,53,54,55,56,57,97,98,99,100,101,102]⟩
theorem QV:∀ n:Fin 16,(GV.data.toList.getD n.1 0)=Pl.fu n.1:=by decide
theorem Qm (n:Nat) (h:n<GV.size):GV[n]=Pl.fu n:=by
 have h':n<16:=h;rw[← QV ⟨n,h'⟩];simp[GV,h'];rfl
theorem vO (n:Nat) (h:n<16) (w:World):(Instr.index 9 (.string ⟨#[48,49,50,51,52,53,54,55,56,57,97,98,99,100,101,102]⟩) (.int .u8 (n:Int))).run Tryz.prog w=.ok (.int .u8 ((Pl.fu n).toNat:Int)) w:=by
 rw[run_index_string w 9 _ .u8 (n:Int) (by kernel_rfl),dif_pos ⟨by omega,by show (n:Int)<16;omega⟩];have:=Qm n h;simp only[GV]at this;simp only[Int.toNat_natCast];rw[this]
end Go.Proofs.YtgiglpnaekbegaaGreatDoor
