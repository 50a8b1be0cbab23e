import Derived.BigFrame
import Derived.Test.YtgiglpnaekbegaaGreatDoorECs
import Derived.Test.YtgiglpnaekbegaaGreatDoorETx
import Derived.Test.YtgiglpnaekbegaaGreatDoorEPr
namespace Go.Proofs.YtgiglpnaekbegaaGreatDoor
set_option maxRecDepth 8000
set_option maxHeartbeats 40000000
open Go.RowKit Go.Deep
namespace RY
def chB (l:List Oper):List Nat→Bool
 |[]=>true
 |[_]=>true
 |x::y::r=>waits l y x&&(match l[x]? with
  |some o=>o.dst.isSome
  |none=>false)&& !(y::r).contains x&&chB l (y::r)
theorem E7 {l:List Oper}:∀ {ch:List Nat},chB l ch=true→∀ k x y,ch[k]? =some x→ch[k+1]? =some y→waits l y x=true∧∃ o d,l[x]? =some o∧o.dst=some d
 |[],_,k,x,y,h,_=>by simp at h
 |[a],_,k,x,y,_,h=>by simp at h
 |a::b::r,hc,k,x,y,h1,h2=>by
  rw[chB,Xj,Xj,Xj]at hc;obtain⟨⟨⟨hw,hd⟩,_⟩,hr⟩:=hc;cases k with
  |zero=>
   simp at h1 h2;subst h1;subst h2;refine⟨hw, ?_⟩;cases ho:l[a]? with
   |none=>rw[ho]at hd;cases hd
   |some o=>
    rw[ho]at hd;obtain⟨d,lZ⟩:=XR.1 hd;exact⟨o,d,rfl,lZ⟩
  |succ k=>exact E7 hr k x y (by simpa using h1) (by simpa using h2)
theorem E9 {l:List Oper}:∀ {ch:List Nat},chB l ch=true→ch.Nodup
 |[],_=>XL
 |[a],_=>by simp
 |a::b::r,hc=>by
  rw[chB,Xj,Xj,Xj]at hc;rw[Yi];refine⟨fun e=> ?_,E9 hc.2⟩;have:=hc.1.2;simp only[Yw,List.contains_eq_mem,decide_eq_false_iff_not]at this;exact this e
structure TCh (ch:List Nat) (Ws:Nat→World) (up:Nat→Bool) (j:Nat) (X:World):Prop where
 le:j≤ch.length
 yes:∀ k x,ch[k]? =some x→k<j→up x=true
 no:∀ k x,ch[k]? =some x→j≤k→up x=false
 eq:X=Ws j
def vU (l:List Oper) (c i:Nat):Bool:=(clo l 8 [c]).contains i
theorem Ky {l:List Oper} {up:Nat→Bool} (fT:∀ (j:Nat) (o':Oper) (e:_),l[j]? =some o'→e∈o'.after→Region.binds .any e=true→up j=true→up e.on=true) (f:Nat) {S:List Nat} (hS:∀ x∈S,up x=true) {i:Nat} (h:(clo l f S).contains i=true):up i=true:=
 gV fT f S hS i (YI.1 h)
theorem JX {l:List Oper} {up:Nat→Bool} (fT:∀ (j:Nat) (o':Oper) (e:_),l[j]? =some o'→e∈o'.after→Region.binds .any e=true→up j=true→up e.on=true) {c i:Nat} (h:vU l c i=true) (hu:up c=true):up i=true:=by
 unfold vU at h;generalize 8=f at h;exact Ky fT f (fun x hx=>by rw[Yc]at hx;rw[hx];exact hu) h
def ws4 (a b c d:World):Nat→World
 |0=>a
 |1=>b
 |2=>c
 |_=>d
theorem Cv {P:Program} {id:Nat} {Q:Exit→Act→World→Prop} {a0:Act} {w:World} {l:List Oper} (V:Nat→Value→Prop) (ch:List Nat) (Ws:Nat→World) (mx:List Nat) (hm:P.follows .mixedOrders=true)
  (hasc:asc .any l.toArray=true) (hap:ek l=true) (eH:eN l a0.tmps.size=true) (DO:chB l ch=true) (Eh:((List.range l.length).all fun i=>decide (ch.findIdx (fun c=>vU l c i)≤mx.getD i 0))=true) (h0:Ws 0=w.drew)
  (ij:∀ (i:Nat) (o:Oper),l[i]? =some o→∀ (a:Act),(∀ k,ew l k=true→a.eval (.tmp k)=a0.eval (.tmp k))→
   (∀ (j:Nat) (o':Oper) (k:Nat),l[j]? =some o'→o'.dst=some k→(∃ e∈o.after,e.on=j∧Region.binds .any e=true)→V j (a.eval (.tmp k)))→
   (∀ j,ch[j]? =some i→(∃ u,(execOp a.eval o).run P (Ws j)=.ok (.value u) (Ws (j+1))∧o.dst.isSome=true∧V i u)∨((execOp a.eval o).run P (Ws j)=.ok .skip (Ws (j+1))∧o.dst=none))∧
   (ch.contains i=false→∀ j,j≤mx.getD i 0→∃ u,(execOp a.eval o).run P (Ws j)=.ok (.value u) (Ws j)∧o.dst.isSome=true∧V i u))
  (hend:∀ (vs:Nat→Value),(∀ (i:Nat) (o:Oper) (k:Nat),l[i]? =some o→o.dst=some k→V i (vs k))→Q .normal (aC l a0 vs) (Ws ch.length)) (fT:∀ x∈ch,x<l.length):
  (Code.region id l.toArray true).wp P Q a0 w:=by
 have l5:=E9 DO;have inj:∀ {k k' x:Nat},ch[k]? =some x→ch[k']? =some x→k=k':=fun {k k' x} h1 h2=>by
  exact(List.getElem?_inj (Xn.1 h1).1 l5).1 (h1.trans h2.symm)
 refine Hl V (fun up _ X=>∃ j,TCh ch Ws up j X) hm hasc hap eH (fun _=>⟨0,zN,fun _ _ _ h=>absurd h (Nat.not_lt_zero _),fun _ _ _ _=>rfl,h0.symm⟩) ?_ ?_
 ·rintro up vals i o ho hi UQ a X hk hd ⟨j,hT⟩;obtain⟨h1,h2⟩:=ij i o ho a hk (fun j o' k hj hk e=>by obtain⟨_,q2,q3⟩:=hd j o' k hj hk e;rw[q2];exact q3);have hX:=hT.eq;subst hX;cases hc:ch.contains i
  ·have dr:∀ k x,ch[k]? =some x→x≠i:=fun k x hx e=>by
    subst e;have:=Xx hx;rw[List.contains_eq_mem,decide_eq_false_iff_not]at hc;exact hc this
   have hj:j≤ch.findIdx (fun c=>vU l c i):=by
    rcases YB (ch.findIdx (fun c=>vU l c i)) j with q|q
    ·exfalso;have bq:ch.findIdx (fun c=>vU l c i)<ch.length:=zL q hT.le;have hw:vU l (ch[ch.findIdx (fun c=>vU l c i)]) i=true:=List.findIdx_getElem (w:=bq) (p:=fun c=>vU l c i);have hu:=hT.yes _ _ (YC bq) q;have:=JX UQ hw hu;rw[hi]at this;cases this
    ·exact q
   have uL:i<l.length:=(Xn.1 ho).1;have Ck:=(Xu.1 Eh) i (XV.2 uL);rw[decide_eq_true_eq]at Ck;obtain⟨u,hr,km,hV⟩:=h2 hc j (Xg hj Ck);refine No ⟨u,_,hr,km,hV,j,hT.le,fun k x hx I9=> ?_,fun k x hx I9=> ?_,rfl⟩
   ·show ((x==i)||up x)=true;rw[hT.yes k x hx I9];simp
   ·show ((x==i)||up x)=false;rw[hT.no k x hx I9,show (x==i)=false from by simpa using dr k x hx];rfl
  ·obtain⟨k,hk⟩:∃ k,ch[k]? =some i:=by
    rw[List.contains_eq_mem,decide_eq_true_eq]at hc;exact YQ hc
   have hjk:j≤k:=by
    rcases YB k j with q|q
    ·have:=hT.yes k i hk q;rw[hi]at this;cases this
    ·exact q
   have I9:k≤j:=by
    cases k with
    |zero=>exact zN
    |succ k=>
     have Ew:k+1<ch.length:=(Xn.1 hk).1;have hx:ch[k]? =some ch[k]:=YC (by omega);obtain⟨hw,ox,d,hox,SG⟩:=E7 DO k _ _ hx hk;have hu:=(hd _ _ _ hox SG (bj hw ho)).1;rcases YB k j with q|q
     ·exact q
     ·have:=hT.no k _ hx q;rw[hu]at this;cases this
   have e:k=j:=by omega
   subst e;have st:TCh ch Ws (fun x=>(x==i)||up x) (k+1) (Ws (k+1)):=by
    have Ew:k<ch.length:=(Xn.1 hk).1;refine⟨Ew,fun q x hx hq=> ?_,fun q x hx hq=> ?_,rfl⟩
    ·by_cases e:q=k
     ·subst e;rw[hk]at hx;injection hx with hx;subst hx;simp
     ·show ((x==i)||up x)=true;rw[hT.yes q x hx (by omega)];simp
    ·have dr:x≠i:=fun e=>by subst e;have:=inj hx hk;omega
     show ((x==i)||up x)=false;rw[hT.no q x hx (by omega),show (x==i)=false from by simpa using dr];rfl
   rcases h1 k hk with⟨u,hr,km,hV⟩|⟨hr,km⟩
   ·exact No ⟨u,_,hr,km,hV,k+1,st⟩
   ·exact Xk ⟨_,hr,km,k+1,st⟩
 ·rintro up vals vs X bA bn ⟨j,hT⟩;have hj:j=ch.length:=by
   rcases YB j ch.length with q|q
   ·exfalso;have hx:ch[j]? =some ch[j]:=YC q;have:=hT.no j _ hx zE;rw[bA _ (fT _ (Xq q))]at this;cases this
   ·exact Nat.le_antisymm hT.le q
  have hX:=hT.eq;subst hX;rw[hj];exact hend vs (fun i o k hi hk=>by obtain⟨q1,q2⟩:=bn i o k hi hk;rw[q1];exact q2)
end RY
abbrev aB:List Sh:=[.s,.row 3 [.i],.b,.row 9 [.s]]
theorem nA {w:World} {tt:Bool} {F:List Nat} {a0:ByteArray} {n1:Nat} {e1:List Dt} {a2:Bool} {n3:Nat} {e3:List Dt} {cs:List Value} (h:Rep w tt aB F [.s a0,.row n1 e1,.b a2,.row n3 e3] cs):∃ F1 v1 F3 v3,F=F1++(F3++[])∧cs=[.string a0,v1,.bool a2,v3]∧Rep w tt [.row 3 [.i]] F1 [.row n1 e1] [v1]∧Rep w tt [.row 9 [.s]] F3 [.row n3 e3] [v3]:=by
 obtain⟨x0,rfl,h1⟩:=h.c_s;obtain⟨F1,G1,v1,x1,rfl,rfl,t1,h2⟩:=h1.c_r;obtain⟨x2,rfl,h3⟩:=h2.c_b;obtain⟨F3,G3,v3,x3,rfl,rfl,t3,h4⟩:=h3.c_r;obtain⟨rfl,rfl⟩:=h4.c_n;exact⟨F1,v1,F3,v3,rfl,rfl,t1,t3⟩
theorem uU {w:World} {a0:ByteArray} {n1:Nat} {e1:List Dt} {a2:Bool} {n3:Nat} {e3:List Dt} {cs:List Value} (h:Raw w aB [.s a0,.row n1 e1,.b a2,.row n3 e3] cs):∃ v1 v3,cs=[.string a0,v1,.bool a2,v3]∧Raw w [.row 3 [.i]] [.row n1 e1] [v1]∧Raw w [.row 9 [.s]] [.row n3 e3] [v3]:=by
 obtain⟨x0,rfl,h1⟩:=h.c_s;obtain⟨v1,x1,rfl,t1,h2⟩:=h1.c_r;obtain⟨x2,rfl,h3⟩:=h2.c_b;obtain⟨v3,x3,rfl,t3,h4⟩:=h3.c_r;obtain rfl:=h4.c_n;exact⟨v1,v3,rfl,t1,t3⟩
theorem fC {w:World} {tt:Bool} (a0:ByteArray) {F1:List Nat} {n1:Nat} {e1:List Dt} {v1:Value} (h1:Rep w tt [.row 3 [.i]] F1 [.row n1 e1] [v1]) (a2:Bool) {F3:List Nat} {n3:Nat} {e3:List Dt} {v3:Value} (h3:Rep w tt [.row 9 [.s]] F3 [.row n3 e3] [v3]):Rep w tt aB (F1++(F3++[])) [.s a0,.row n1 e1,.b a2,.row n3 e3] [.string a0,v1,.bool a2,v3]:=
 (.s a0 (h1.app (.b a2 (h3.app .nil))))
theorem Tryz.qG:Tryz.prog.underlying 73=some (.slice 3):=by kernel_rfl
theorem Tryz.cA:(Tryz.prog.info? 3).map (fun i=>(i.zero,i.size,i.bytes))=some (some (.int .i64 0),1,8):=by kernel_rfl
theorem xH (s:ByteArray) (f k:Nat) (h1:f≤k) (h2:k≤s.size) (w:World):(Instr.slice 9 (.string s) (some (.int .i64 (f:Int))) (some (.int .i64 (k:Int))) none).run Tryz.prog w=.ok (.string (s.extract f k)) w:=by
 rw[run_slice_string_if w 9 s .i64 .i64 (f:Int) (k:Int) (by kernel_rfl),if_pos ⟨by omega,by omega⟩,if_pos ⟨by omega,by omega⟩];simp only[Int.toNat_natCast]
structure OR (w:World) (p:Nat) (key:ByteArray) (av:Value) (FA:List Nat) (n:Nat) (es:List Dt) (wr:World) (v:Value) (ts:List ByteArray):Prop where
 bel:Bel w wr
 res:aA wr w.heap.size 75 [.string {data:=#[]},.slice none 0 0,.bool false,.slice none 0 0]
 box:aA wr p 75 [.string key,av,.bool false,v]
 arg:Rep wr false [.row 3 [.i]] FA [.row n es] [av]
 row:TxR wr (p+1) v ts
theorem OR.put {w wr wb w1:World} {p:Nat} {key:ByteArray} {av v v':Value} {FA:List Nat} {n:Nat} {es:List Dt} {ts ts':List ByteArray} (h:OR w p key av FA n es wr v ts) (Rl:w.heap.size<p) (hFA:∀ b∈FA,b<p) (hb:Bel wr wb) (hg:wb.grownBy w1 v.ownBlock) (hx:TxR w1 (p+1) v' ts'):OR w p key av FA n es (w1.setCell ⟨p,3,none⟩ v') v' ts':=by
 have hn:∀ q,q<p+1→v.ownBlock≠some q:=fun q hq e=>by have:=(aW h.row e).1;omega
 have hm:Marks (fun b=>b=p) w1 (w1.setCell ⟨p,3,none⟩ v'):=Marks.sc (S:=fun b=>b=p) w1 rfl 3 v';refine⟨?_,((h.res.later hb).grow hg (hn _ (by omega))).other (by omega) _ _,((h.box.later hb).grow hg (hn _ (by omega))).set 3 v' (by simp),((h.arg.later hb).grown hg fun b hb=>hn b (by have:=hFA b hb;omega)).cO hm fun b hb e=>by have:=hFA b hb;omega,fV hx hm fun b hb e=>by omega⟩;exact((h.row.later hb).below (lo:=p+1) (ae h.bel hb) hg (by omega)).setCell (p:=⟨p,3,none⟩) (by show w.heap.size≤p;omega) _
theorem Qs {w wr we:World} {p:Nat} {key:ByteArray} {av v:Value} {FA:List Nat} {n:Nat} {es:List Dt} {ts:List ByteArray} (h:OR w p key av FA n es wr v ts) (Rl:w.heap.size<p) (nd:FA.Nodup) (hFA:∀ b∈FA,w.heap.size<b∧b<p) (hm:Marks (fun b=>b=w.heap.size) wr we) (hb:Bel w we):
  Ans aB [.s key,.row n es,.b false,.row ts.length (txD ts)] w (.returned (.agg #[.string key,av,.bool false,v])) we:=by
 obtain⟨F,h1,h2,h3⟩:=TxR.done (show TxR we (p+1) v ts from fV h.row hm fun b hb e=>by omega);refine⟨[.string key,av,.bool false,v],FA++(F++[]),rfl,fC key (h.arg.cO hm fun b hb e=>by have:=hFA b hb;omega) false h1, ?_,fun b gY=> ?_,hb⟩
 ·rw[Xl];exact Bp nd h2 (fun b hb=>(hFA b hb).2) (fun b hb=>by have:=h3 b hb;omega)
 ·rw[Xl]at gY;rcases XC.1 gY with q|q
  ·have:=hFA b q;omega
  ·have:=h3 b q;omega
def VOr (wz p f k g cap:Nat) (s X:ByteArray) (va:Value) (m:Nat):Nat→Value→Prop
 |0,u|8,u=>u=.pointer (some ⟨p,3,none⟩)
 |1,u=>u=va
 |2,u=>u=.string s
 |3,u=>u=.int .i64 (f:Int)
 |4,u=>u=.int .i64 (k:Int)
 |5,u=>u=.string X
 |6,u=>u=.slice (some ⟨wz,0,none⟩) 1 1
 |7,u=>u=.slice (some ⟨g,0,none⟩) (m+1) cap
 |_,_=>True
theorem Ke (key s:ByteArray) (va:Option Addr) (n vc:Nat) (es:List Dt) (w:World) (hs:s.size≤1048576) (hv:Raw w [.row 3 [.i]] [.row n es] [.slice va n vc]) (hn:n≤4194304):
  Calls Tryz.prog 46 #[.string key,.string s,.slice va n vc] w (Ans aB [.s key,.row n es,.b false,.row (Pl.gj s).length (txD (Pl.gj s))] w):=by
 obtain⟨wa,aP⟩:∃ wa,wa=w.alloc (.cells #[.string {data:=#[]},.slice none 0 0,.bool false,.slice none 0 0] 75):=⟨_,rfl⟩
 have wN:Bel w wa:=by rw[aP];exact af zR _
 have B3:wa.heap.size=w.heap.size+1:=by rw[aP];simp
 have oU:Hid (aA wa w.heap.size 75 [.string {data:=#[]},.slice none 0 0,.bool false,.slice none 0 0]):=by show aA _ _ _ _;rw[aP];exact aA.new w [.string {data:=#[]},.slice none 0 0,.bool false,.slice none 0 0] 75 _ rfl
 obtain⟨wb,fa⟩:∃ wb,wb=wa.alloc (.cells #[] 3):=⟨_,rfl⟩
 have dG:Bel wa wb:=by rw[fa];exact af zR _
 obtain⟨v',W1,xs,bC,hg,cr⟩:=kO (P:=Tryz.prog) wa.heap.size 73 73 3 3 1 8 _ Tryz.qG Tryz.cA rfl (by decide) (by decide) [.i] rfl (by simp[dL]) wb (.slice (some ⟨wa.heap.size,0,none⟩) 0 0) (Xk ⟨wa.heap.size,rfl,zE,by rw[fa];exact heap_alloc_new _ _⟩) dG.size n es (.slice va n vc) ((hv.later wN).later dG) hn;rw[fa]at bC;obtain⟨wx,wc,wg⟩:=hg.shape;subst wg;obtain⟨FA,rA,ndA,frA⟩:=hg.done;obtain⟨p,hp⟩:∃ p,p=W1.heap.size:=⟨_,rfl⟩
 obtain⟨wd,TG⟩:∃ wd,wd=W1.alloc (.cells #[.string key,.slice wx n wc,.bool false,.slice none 0 0] 75):=⟨_,rfl⟩
 have H0:Hid (OR w p key (.slice wx n wc) FA n es wd (.slice none 0 0) []):=by
  have dD:Bel W1 wd:=by rw[TG];exact af zR _
  show OR _ _ _ _ _ _ _ _ _ _;exact⟨ae (ae (ae wN dG) cr) dD,((oU.out.later dG).later cr).later dD,by rw[TG,hp];exact aA.new W1 [.string key,.slice wx n wc,.bool false,.slice none 0 0] 75 _ rfl,rA.later dD,TxR.nil _ _⟩
 have Ov:Hid (FA.Nodup∧∀ b∈FA,w.heap.size<b∧b<p):=⟨ndA,fun b hb=>⟨by have:=frA b hb;omega,by rw[hp];exact rA.lt b hb⟩⟩
 have HWP:Hid (w.heap.size<p):=by show _<_;rw[hp];have:=wN.size;have:=dG.size;have:=cr.size;omega
 clear hg rA ndA frA oU hv fa dG cr B3 wN;go_enter Tryz.func46,Tryz.ntmps46
 go_upto_region 1 with fail
 rw[← aP];clear aP;go_upto_region 2 with(at_builtin;refine Go.Lib.wpList_append_run _ rfl _ _ 73 73 rfl _ _ rfl rfl _ W1 bC ?_)
 rw[← TG,← hp];clear TG hp bC;go_wp2;go_loopw [8,9] (fun vf vi wr=>∃ (f k:Nat) (v:Value) (ts:List ByteArray),vf=.int .i64 f∧vi=.int .i64 k∧OR w p key (.slice wx n wc) FA n es wr v ts∧ts.length≤k∧k≤s.size+1∧f≤k∧((k≤s.size∧Pl.gj s=ts++Pl.lK s f k)∨(k=s.size+1∧Pl.gj s=ts))) (fun _ vi _=>s.size+1 - (intOf vi).toNat)
 case atStart=>exact⟨0,0,_,[],rfl,rfl,H0.out,zE,by omega,zE,No ⟨zN,by rw[Pl.zy];rfl⟩⟩
 case round=>
  obtain⟨f,k,v,ts,rfl,rfl,hO,mN,D0,Sc,Ia⟩:=hrel;have HO:=uh hO;have Ep:=uh Ia;have zi:=uh mN;obtain⟨sa,sc,Px⟩:=hO.row.shape;subst Px;clear hO Ia mN H0;by_cases hle:k≤s.size
  rotate_left
  ·have Q3:Hid (Pl.gj s=ts):=by rcases Ep.out with h|h;exact absurd h.1 hle;exact h.2
   have AP:=uh HO.out.bel;go_upto_region 9 with fail
   have lF:=HO.out.box.at_;have iO:=HO.out.box.own.lt;have qv:=HO.out.res.own.lt;have bJ:wr.there w.heap.size 0 (#[.string key,.slice wx n wc,.bool false,.slice sa ts.length sc]:Array Value).size:=aX HO.out.res.own _ _ (by simp);obtain⟨we,aZ⟩:∃ we,we=wr.setCells w.heap.size 0 [.string key,.slice wx n wc,.bool false,.slice sa ts.length sc]:=⟨_,rfl⟩
   have dP:we.rangeAt w.heap.size 0 [.string key,.slice wx n wc,.bool false,.slice sa ts.length sc]:=by rw[aZ];exact World.rangeAt_setCells_same _ _ _ _ bJ
   have jK:Hid (Marks (fun b=>b=w.heap.size) wr we):=by show Marks _ _ _;rw[aZ];exact bf (S:=fun b=>b=w.heap.size) rfl _ _ _
   have fm:Hid (Bel w we):=by show Below _ _ _;rw[aZ];exact bW zE _ _ _ AP.out
   go_wp2_with (first|(refine wpList_load_mid rfl 75 _ rfl p 0 rfl [.string key,.slice wx n wc,.bool false,.slice sa ts.length sc] _ lF Tryz.underlying75 rfl (by kernel_rfl) ?_)|(refine wpList_store_mid rfl 75 _ _ rfl w.heap.size 0 #[.string key,.slice wx n wc,.bool false,.slice sa ts.length sc] rfl rfl bJ (by kernel_rfl) (by simp[Value.oneCell']) ?_))
   first|rw[← aZ]|(simp only[Xi];rw[← aZ])
   try simp only[Act.put]
   refine bodyPost_ret (v:=.agg #[.string key,.slice wx n wc,.bool false,.slice sa ts.length sc]) (by simp[results,Tryz.results46,asAddr,run_loadVar_mid (P:=Tryz.prog) _ _ _ 75 [.string key,.slice wx n wc,.bool false,.slice sa ts.length sc] _ dP Tryz.underlying75 rfl (by kernel_rfl)]) rfl ?_;rw[Q3.out];exact Qs HO.out HWP.out Ov.out.1 Ov.out.2 jK.out fm.out
  have Ij:Hid (Pl.gj s=ts++Pl.lK s f k):=by
   rcases Ep.out with h|h
   ·exact h.2
   ·exact absurd h.1 (by omega)
  clear Ep;have hcut:(k=s.size)∨(∃ h:k<s.size,s[k].toNat=32)∨(∃ h:k<s.size,s[k].toNat≠32):=by
   by_cases e:k=s.size
   ·exact No e
   ·by_cases e2:s[k].toNat=32
    ·exact Xk (No ⟨by omega,e2⟩)
    ·exact Xk (Xk ⟨by omega,e2⟩)
  have Qf:Hid (∀ w,(Instr.slice 9 (.string s) (some (.int .i64 (f:Int))) (some (.int .i64 (k:Int))) none).run Tryz.prog w=.ok (.string (s.extract f k)) w):=fun w=>xH s f k Sc hle w;obtain⟨X,hX⟩:∃ X,X=s.extract f k:=⟨_,rfl⟩
  rw[← hX]at Qf;have qp:IntKind.i64.wrap ((k:Int)+1)=(k:Int)+1:=IntWalk.i64_in _ ⟨by omega,by omega⟩;rcases hcut with he|⟨bq,hc⟩|⟨bq,hc⟩
  rotate_right
  ·have nL:Hid (Pl.gj s=ts++Pl.lK s f (k+1)):=by show _=_;rw[Ij.out,Pl.Kc s f k Sc bq hc]
   have d1:((k:Int)==(s.size:Int))=false:=by simp;omega
   have d2:((s[k].toNat:Int)==32)=false:=by simp;omega
   clear hc;go_wp2;go_roundw
   case rel=>exact⟨f,k+1,_,ts,rfl,by go_num,HO.out,by have:=zi.out;omega,by omega,by omega,No ⟨by omega,nL.out⟩⟩
   case measure=>simp[intOf];omega
  all_goals
   have nL:Hid (((k+1≤s.size∧Pl.gj s=(ts++[X])++Pl.lK s (k+1) (k+1))∨(k+1=s.size+1∧Pl.gj s=ts++[X]))):=by
    first
     |(refine Xk ⟨by omega, ?_⟩;rw[Ij.out,hX];subst he;rw[Pl.G9])
     |(refine No ⟨by omega, ?_⟩;rw[Ij.out,Pl.Hb s f k bq hc,hX];simp)
   first
    |have d1:((k:Int)==(s.size:Int))=true:=by simp;omega
    |(have d1:((k:Int)==(s.size:Int))=false:=by simp;omega
      have d2:((s[k].toNat:Int)==32)=true:=by simp;omega)
   have Of:Bel wr wr.drew:=XF zR;obtain⟨Wb,TQ⟩:∃ Wb,Wb=wr.drew.alloc (.cells #[.string X] 9):=⟨_,rfl⟩
   have Ol:Bel wr Wb:=by rw[TQ];exact af Of _
   obtain⟨g,cap,W1',bC,fc,eC⟩:=NS (HO.out.row.later Ol) 38 wr.heap.size 1 1 [X] rfl (by rw[TQ];exact World.news_of_block (cs:=#[.string X]) (heap_alloc_new wr.drew _)) (by decide) (by have:=zi.out;omega) (by have:=HO.out.box.own.lt;have:=Ol.size;omega);have c0:=(HO.out.box.later Of).get 3 _ rfl;have c0b:=(HO.out.box.later Ol).get 3 _ rfl;have uG:=uh (HO.out.put HWP.out (fun b hb=>(Ov.out.2 b hb).2) Ol eC fc);have il:(Value.slice sa ts.length sc).ownBlock≠some p:=fun e=>by have:=(aW HO.out.row e).1;omega
   have x0:=((HO.out.box.later Ol).grow eC il).get 3 _ rfl;have xf:=((HO.out.box.later Ol).grow eC il).own.frozen 3;clear fc eC il Ol Of;go_upto_region 7 with fail
   refine RY.Cv (VOr wr.heap.size p f k g cap s X (.slice sa ts.length sc) ts.length) [6,7,9] (RY.ws4 wr.drew Wb W1' (W1'.setCell ⟨p,3,none⟩ (.slice (some ⟨g,0,none⟩) (ts.length+1) cap))) [1,1,0,0,0,0,0,1,2,2] (by kernel_rfl) (by kernel_rfl) (by kernel_rfl) (by kernel_rfl) (by kernel_rfl) (by kernel_rfl) rfl ?_ ?_ (by simp)
   ·intro i o ho a hk hd;match i,ho with
    |0,rfl|8,rfl=>
     have s7:a.eval (.tmp 7)=.pointer (some ⟨p,0,none⟩):=(hk 7 rfl).trans rfl;have t7:a.tmps[7]?.getD undef=.pointer (some ⟨p,0,none⟩):=(RY.ai a 7).trans s7;refine⟨fun j hj=>absurd (Xx hj) (by decide),fun _ j hj=> ?_⟩;exact⟨.pointer (some ⟨p,3,none⟩),by simp[execOp,go_sem,t7],rfl,rfl⟩
    |1,rfl=>
     have sL:a.eval (.tmp 31)=.pointer (some ⟨p,3,none⟩):=hd 0 _ 31 rfl rfl ⟨⟨0,.data⟩,by simp,rfl,rfl⟩;have t31:a.tmps[31]?.getD undef=.pointer (some ⟨p,3,none⟩):=(RY.ai a 31).trans sL;refine⟨fun j hj=>absurd (Xx hj) (by decide),fun _ j hj=> ?_⟩;replace hj:j≤1:=hj
     match j,hj with
     |0,_=>exact⟨.slice sa ts.length sc,by simp[RY.ws4,execOp,go_sem,t31,c0],rfl,rfl⟩
     |1,_=>exact⟨.slice sa ts.length sc,by simp[RY.ws4,execOp,go_sem,t31,c0b],rfl,rfl⟩
     |n+2,hj=>exact absurd hj (by omega)
    |2,rfl=>
     have s1:a.eval (.tmp 1)=.string s:=(hk 1 rfl).trans rfl;have t1:a.tmps[1]?.getD undef=.string s:=(RY.ai a 1).trans s1;refine⟨fun j hj=>absurd (Xx hj) (by decide),fun _ j hj=> ?_⟩;exact⟨.string s,by simp[execOp,go_sem,t1],rfl,rfl⟩
    |3,rfl=>
     have s8:a.eval (.tmp 8)=.int .i64 (f:Int):=(hk 8 rfl).trans rfl;have t8:a.tmps[8]?.getD undef=.int .i64 (f:Int):=(RY.ai a 8).trans s8;refine⟨fun j hj=>absurd (Xx hj) (by decide),fun _ j hj=> ?_⟩;exact⟨.int .i64 (f:Int),by simp[execOp,go_sem,t8],rfl,rfl⟩
    |4,rfl=>
     have s9:a.eval (.tmp 9)=.int .i64 (k:Int):=(hk 9 rfl).trans rfl;have t9:a.tmps[9]?.getD undef=.int .i64 (k:Int):=(RY.ai a 9).trans s9;refine⟨fun j hj=>absurd (Xx hj) (by decide),fun _ j hj=> ?_⟩;exact⟨.int .i64 (k:Int),by simp[execOp,go_sem,t9],rfl,rfl⟩
    |5,rfl=>
     have pY:a.eval (.tmp 33)=.string s:=hd 2 _ 33 rfl rfl ⟨⟨2,.data⟩,by simp,rfl,rfl⟩;have t33:a.tmps[33]?.getD undef=.string s:=(RY.ai a 33).trans pY;have qo:a.eval (.tmp 34)=.int .i64 (f:Int):=hd 3 _ 34 rfl rfl ⟨⟨3,.data⟩,by simp,rfl,rfl⟩;have t34:a.tmps[34]?.getD undef=.int .i64 (f:Int):=(RY.ai a 34).trans qo;have nP:a.eval (.tmp 35)=.int .i64 (k:Int):=hd 4 _ 35 rfl rfl ⟨⟨4,.data⟩,by simp,rfl,rfl⟩;have t35:a.tmps[35]?.getD undef=.int .i64 (k:Int):=(RY.ai a 35).trans nP;refine⟨fun j hj=>absurd (Xx hj) (by decide),fun _ j hj=> ?_⟩;replace hj:j≤0:=hj
     match j,hj with
     |0,_=>exact⟨.string X,by simp[RY.ws4,execOp,go_sem,t33,t34,t35,Qf.out],rfl,rfl⟩
     |n+1,hj=>exact absurd hj (by omega)
    |6,rfl=>
     have mU:a.eval (.tmp 36)=.string X:=hd 5 _ 36 rfl rfl ⟨⟨5,.data⟩,by simp,rfl,rfl⟩;have t36:a.tmps[36]?.getD undef=.string X:=(RY.ai a 36).trans mU;refine⟨fun j hj=> ?_,fun h=>absurd h (by decide)⟩;obtain rfl:j=0:=by
      match j,hj with
      |0,hj=>first|rfl|(simp at hj)
      |1,hj=>first|rfl|(simp at hj)
      |2,hj=>first|rfl|(simp at hj)
      |n+3,hj=>simp at hj
     exact No ⟨.slice (some ⟨wr.heap.size,0,none⟩) 1 1,by rw[TQ];simp[RY.ws4,execOp,go_sem,t36],rfl,rfl⟩
    |7,rfl=>
     have pS:a.eval (.tmp 32)=.slice sa ts.length sc:=hd 1 _ 32 rfl rfl ⟨⟨1,.data⟩,by simp,rfl,rfl⟩;have t32:a.tmps[32]?.getD undef=.slice sa ts.length sc:=(RY.ai a 32).trans pS;have nS:a.eval (.tmp 37)=.slice (some ⟨wr.heap.size,0,none⟩) 1 1:=hd 6 _ 37 rfl rfl ⟨⟨6,.data⟩,by simp,rfl,rfl⟩;have t37:a.tmps[37]?.getD undef=.slice (some ⟨wr.heap.size,0,none⟩) 1 1:=(RY.ai a 37).trans nS;refine⟨fun j hj=> ?_,fun h=>absurd h (by decide)⟩;obtain rfl:j=1:=by
      match j,hj with
      |0,hj=>first|rfl|(simp at hj)
      |1,hj=>first|rfl|(simp at hj)
      |2,hj=>first|rfl|(simp at hj)
      |n+3,hj=>simp at hj
     exact No ⟨_,aQ (.tmp 32) (.tmp 37) 38 rfl pS nS bC,rfl,rfl⟩
    |9,rfl=>
     have nW:a.eval (.tmp 39)=.pointer (some ⟨p,3,none⟩):=hd 8 _ 39 rfl rfl ⟨⟨8,.data⟩,by simp,rfl,rfl⟩;have t39:a.tmps[39]?.getD undef=.pointer (some ⟨p,3,none⟩):=(RY.ai a 39).trans nW;have mT:a.eval (.tmp 38)=.slice (some ⟨g,0,none⟩) (ts.length+1) cap:=hd 7 _ 38 rfl rfl ⟨⟨7,.data⟩,by simp,rfl,rfl⟩;have t38:a.tmps[38]?.getD undef=.slice (some ⟨g,0,none⟩) (ts.length+1) cap:=(RY.ai a 38).trans mT;refine⟨fun j hj=> ?_,fun h=>absurd h (by decide)⟩;obtain rfl:j=2:=by
      match j,hj with
      |0,hj=>first|rfl|(simp at hj)
      |1,hj=>first|rfl|(simp at hj)
      |2,hj=>first|rfl|(simp at hj)
      |n+3,hj=>simp at hj
     exact Xk ⟨by simp[RY.ws4,execOp,go_sem,t39,t38,x0,xf],rfl⟩
    |n+10,ho=>simp at ho
   intro vs bn;simp only[RY.aC,Act.put,so,As,An];generalize vs 31=g31,vs 32=g32,vs 33=g33,vs 34=g34,vs 35=g35,vs 36=g36,vs 37=g37,vs 38=g38,vs 39=g39;clear bn;clear c0 c0b x0 xf bC TQ;show _;go_wp2;go_roundw
   case rel=>exact⟨k+1,k+1,_,ts++[X],by go_num,by go_num,uG.out,by rw[At];have:=zi.out;simp;omega,by omega,zE,nL.out⟩
   case measure=>simp[intOf];omega
theorem GM (key:ByteArray) (va:Option Addr) (n vc:Nat) (es:List Dt) (w:World) (hv:Raw w [.row 3 [.i]] [.row n es] [.slice va n vc]) (hn:n≤4194304):
  Calls Tryz.prog 47 #[.string key,.slice va n vc] w (Ans aB [.s key,.row n es,.b true,.row 0 []] w):=by
 obtain⟨wa,aP⟩:∃ wa,wa=w.alloc (.cells #[.string {data:=#[]},.slice none 0 0,.bool false,.slice none 0 0] 75):=⟨_,rfl⟩
 have wN:Bel w wa:=by rw[aP];exact af zR _
 have B3:wa.heap.size=w.heap.size+1:=by rw[aP];simp
 have oU:Hid (aA wa w.heap.size 75 [.string {data:=#[]},.slice none 0 0,.bool false,.slice none 0 0]):=by show aA _ _ _ _;rw[aP];exact aA.new w [.string {data:=#[]},.slice none 0 0,.bool false,.slice none 0 0] 75 _ rfl
 obtain⟨wb,fa⟩:∃ wb,wb=wa.alloc (.cells #[] 3):=⟨_,rfl⟩
 have dG:Bel wa wb:=by rw[fa];exact af zR _
 obtain⟨v',W1,xs,bC,hg,cr⟩:=kO (P:=Tryz.prog) wa.heap.size 73 73 3 3 1 8 _ Tryz.qG Tryz.cA rfl (by decide) (by decide) [.i] rfl (by simp[dL]) wb (.slice (some ⟨wa.heap.size,0,none⟩) 0 0) (Xk ⟨wa.heap.size,rfl,zE,by rw[fa];exact heap_alloc_new _ _⟩) dG.size n es (.slice va n vc) ((hv.later wN).later dG) hn;rw[fa]at bC;obtain⟨wx,wc,wg⟩:=hg.shape;subst wg;obtain⟨FA,rA,ndA,frA⟩:=hg.done;obtain⟨p,hp⟩:∃ p,p=W1.heap.size:=⟨_,rfl⟩
 have Ov:Hid (FA.Nodup∧∀ b∈FA,w.heap.size<b):=⟨ndA,fun b hb=>by have:=frA b hb;omega⟩
 have HRA:=uh rA;have AP:Hid (Bel w W1):=ae (ae wN dG) cr;replace oU:=uh ((oU.out.later dG).later cr)
 clear hg rA ndA frA hv hp wN dG cr B3 fa;have qv:=oU.out.own.lt;have bJ:W1.there w.heap.size 0 (#[.string key,.slice wx n wc,.bool true,.slice none 0 0]:Array Value).size:=aX oU.out.own _ _ (by simp);obtain⟨we,aZ⟩:∃ we,we=W1.setCells w.heap.size 0 [.string key,.slice wx n wc,.bool true,.slice none 0 0]:=⟨_,rfl⟩
 have dP:we.rangeAt w.heap.size 0 [.string key,.slice wx n wc,.bool true,.slice none 0 0]:=by rw[aZ];exact World.rangeAt_setCells_same _ _ _ _ bJ
 have jK:Hid (Marks (fun b=>b=w.heap.size) W1 we):=by show Marks _ _ _;rw[aZ];exact bf (S:=fun b=>b=w.heap.size) rfl _ _ _
 have fm:Hid (Bel w we):=by show Below _ _ _;rw[aZ];exact bW zE _ _ _ AP.out
 go_enter Tryz.func47,Tryz.ntmps47
 go_upto_region 1 with fail
 rw[← aP];clear aP;go_wp2_with (first|(at_builtin;refine Go.Lib.wpList_append_run _ rfl _ _ 73 73 rfl _ _ rfl rfl _ W1 bC ?_)|(refine wpList_store_mid rfl 75 _ _ rfl w.heap.size 0 #[.string key,.slice wx n wc,.bool true,.slice none 0 0] rfl rfl bJ (by kernel_rfl) (by simp[Value.oneCell']) ?_))
 first|rw[← aZ]|(simp only[Xi];rw[← aZ])
 try simp only[Act.put]
 refine bodyPost_ret (v:=.agg #[.string key,.slice wx n wc,.bool true,.slice none 0 0]) (by simp[results,Tryz.results47,asAddr,run_loadVar_mid (P:=Tryz.prog) _ _ _ 75 [.string key,.slice wx n wc,.bool true,.slice none 0 0] _ dP Tryz.underlying75 rfl (by kernel_rfl)]) rfl ?_;exact⟨[.string key,.slice wx n wc,.bool true,.slice none 0 0],FA++([]++[]),rfl,fC key (HRA.out.cO jK.out fun b hb e=>by have:=Ov.out.2 b hb;omega) true (.emp _ _ none rfl .nil),by rw[Xl,Xl];exact Ov.out.1,fun b hb=>by rw[Xl,Xl]at hb;have:=Ov.out.2 b hb;omega,fm.out⟩
end Go.Proofs.YtgiglpnaekbegaaGreatDoor
