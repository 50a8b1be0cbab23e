import Derived.Deep.LoopGhost
import Derived.WalkKit
import Derived.LaidEql
import Derived.Stop.Asserts
import Derived.RowKitTokens
import Derived.Laws.Externs
import Derived.Lib.Builder
import Derived.Lib.UnsafeStr
import Derived.StillTailTactics
import Derived.Shelf.RegionOpenPlain
import Derived.RangeFuncNested
import Derived.RangeFuncLeaves
import Derived.RangeFuncBox
import Derived.Shelf.Abstract
import Derived.OwnWalkIn
import Derived.TacticsInMore
import Derived.LoopNIn
import Derived.LoopIn
import Derived.Test.YtgiglpnaekbegaaGreatDoorEVj
import Derived.Test.YtgiglpnaekbegaaGreatDoorEJd
import Derived.Test.YtgiglpnaekbegaaGreatDoorEXb
namespace Go.Proofs.YtgiglpnaekbegaaGreatDoor
set_option maxRecDepth 8000
set_option maxHeartbeats 40000000
open Go.RowKit Go.Deep
theorem Bk (X:World) (lo:Nat) (a:ByteArray) (v:Value) (h:lo≤X.heap.size):(X.alloc (.cells #[.string a,v] 41)).ownsRow lo 41 2 (.slice (some ⟨X.heap.size,0,none⟩) 1 1) 1 [.string a,v]:=
 ⟨rfl,.inr ⟨X.heap.size,1,_,rfl,h,heap_alloc_new X _,zE,by decide,rfl,rfl⟩⟩
theorem tF {W:World} {lo:Nat} {e:TypeId} {size g n q:Nat} {xs:List Value} (h:W.ownsRow lo e size (.slice (some ⟨g,0,none⟩) n q) n xs) {j:Nat} (hj:j<n*size):(∃ v,W.cell? ⟨g,j,none⟩=some v)∧g<W.heap.size∧W.frozen? ⟨g,j,none⟩=false:=by
 rcases h.2 with⟨e1,_⟩|⟨g',cap,cur,e1,h1,h2,h3,h4,h5,h6⟩
 ·cases e1
 ·injection e1 with e1
  injection e1 with e1
  injection e1 with e1
  subst e1;have hl:j<cur.size:=by rw[h5];exact zL hj (XJ _ h3)
  exact⟨⟨cur[j],by simp[World.cell?,h2,hl]⟩,eP h2,iE h2 j⟩
theorem xZ {W:World} {lo:Nat} {e:TypeId} {size g n q:Nat} {xs:List Value} (h:W.ownsRow lo e size (.slice (some ⟨g,0,none⟩) n q) n xs) (j:Nat) (v:Value):(W.setCell ⟨g,j,none⟩ v).ownsRow lo e size (.slice (some ⟨g,0,none⟩) n q) n (xs.set j v):=by
 refine⟨by rw[YE];exact h.1, ?_⟩;rcases h.2 with⟨e1,_⟩|⟨g',cap,cur,e1,h1,h2,h3,h4,h5,h6⟩
 ·cases e1
 ·have e2:=e1;injection e1 with e1
  injection e1 with e1
  injection e1 with e1
  subst e1;refine .inr ⟨g,cap,cur.setIfInBounds j v,e2,h1, ?_,h3,h4,by rw[Array.size_setIfInBounds];exact h5, ?_⟩
  ·simp only[World.setCell];rw[YM,if_pos rfl,h2];rfl
  ·rw[Array.toList_setIfInBounds,← h6,List.take_set]
theorem yu (ca cb:List Value) (a b c v:Value) {k:Nat} (h:ca.length=k*3):(ca++[a,b,c]++cb).set (k*3+2) v=ca++[a,b,v]++cb:=by
 rw[XG,List.set_append_right _ _ (by omega),show k*3+2 - ca.length=2 by omega,XG];rfl
theorem xO {l:List Pl.Ru} {key:ByteArray} {W:World} {e:Ending} (h:nE l key W e) (har:∀ r∈l,∀ z∈r.args,1≤z∧z≤6):
  ∃ c0 a1 n1 c1 a3 n3 c3,e=.returned (.tuple #[.agg #[.string c0,.slice a1 n1 c1,.bool (Pl.iB l key),.slice a3 n3 c3],.bool (Pl.bP l key).isSome])∧
   ((Pl.bP l key).isSome=true→∀ (X:World),Bel W X→∀ (ws:List ByteArray) (wv:Value),Raw X [.row 9 [.s]] [.row ws.length (txD ws)] [wv]→(∀ y∈ws,y.size≤maxLen)→Calls Tryz.prog 97 #[.agg #[.string c0,.slice a1 n1 c1,.bool (Pl.iB l key),.slice a3 n3 c3],wv] X fun e w'=>e=.returned (.bool (Pl.js l key ws))∧Bel X w'):=by
 unfold nE at h;unfold Pl.iB Pl.js;cases lE:Pl.bP l key with
 |none=>
  rw[lE]at h;simp only at h ⊢;exact⟨_,_,_,_,_,_,_,h,(fun h=>by cases h)⟩
 |some j=>
  rw[lE]at h;simp only at h ⊢;have hj:=Pl.iV lE;obtain⟨a1,c1,a3,c3,he,hA,hD⟩:=h;refine⟨_,_,_,_,_,_,_,he,fun _ X hX ws wv hw hs=>ph _ _ _ a1 c1 _ ws wv X (hA.later hX) hw ?_ hs⟩;have e:l.getD j Pl.bu=l[j]:=by simp[hj]
  rw[e];exact har _ (Xq hj)
def adC (l:List Pl.Ru) (lX:Nat) (x:Pl.Ln) (ag:Bool):Nat:=
 if (Pl.bP l x.key).isSome=false then 5 else if Pl.js l x.key x.ws=false then 7 else if (ag||(decide (0<lX)&& !Pl.iB l x.key))=true then 6 else if lX=10 then 10 else 0
def Nd (rb:Nat) (g:Nat) (n:Nat) (q:Nat) (pl:Nat):Nat→Value→World→Prop
 |0,vv,_|1,vv,_|4,vv,_|5,vv,_=>vv=.pointer (some ⟨rb,0,none⟩)
 |2,vv,_=>vv=.pointer (some ⟨rb,5,none⟩)
 |3,vv,_=>vv=.slice (some ⟨g,0,none⟩) n q
 |6,vv,_=>vv=.pointer (some ⟨rb,6,none⟩)
 |7,vv,_=>vv=.int .i64 (pl:Int)
 |8,vv,_|9,vv,_=>vv=.pointer (some ⟨g,pl*3,none⟩)
 |_,_,_=>True
theorem Dp (rb:Nat) (g:Nat) (n:Nat) (q:Nat) (pl:Nat):∀ jj vv W W',Bel W W'→Nd rb g n q pl jj vv W→Nd rb g n q pl jj vv W':=by
 intro jj vv W W' hb h;match jj with
 |0|1|2|3|4|5|6|7|8|9=>exact h
 |n+10=>exact trivial
def Nx (g:Nat) (pl:Nat) (q5:Nat) (ln:Nat) (lq:Nat) (lX:Nat) (l1:Option Addr) (key:ByteArray):Nat→Value→World→Prop
 |0,vv,_|1,vv,_=>vv=.pointer (some ⟨g,pl*3,none⟩)
 |2,vv,_=>vv=.pointer (some ⟨g,pl*3+2,none⟩)
 |3,vv,_=>vv=.slice l1 ln lq
 |4,vv,_=>vv=.pointer (some ⟨q5,0,none⟩)
 |5,vv,_=>vv=.string key
 |6,vv,_|7,vv,_=>vv=.int .i64 (lX:Int)
 |_,_,_=>True
theorem Dj (g:Nat) (pl:Nat) (q5:Nat) (ln:Nat) (lq:Nat) (lX:Nat) (l1:Option Addr) (key:ByteArray):∀ jj vv W W',Bel W W'→Nx g pl q5 ln lq lX l1 key jj vv W→Nx g pl q5 ln lq lX l1 key jj vv W':=by
 intro jj vv W W' hb h;match jj with
 |0|1|2|3|4|5|6|7=>exact h
 |n+8=>exact trivial
def Nv (g:Nat) (pl:Nat) (ln:Nat) (lq:Nat) (pi:Nat) (m:Nat) (tc:Nat) (rc:Nat) (l1:Option Addr) (ta:Option Addr) (ra:Option Addr) (l:List Pl.Ru) (key:ByteArray) (ag:Bool):Nat→Value→World→Prop
 |0,vv,_|1,vv,_=>vv=.pointer (some ⟨g,pl*3,none⟩)
 |2,vv,_=>vv=.pointer (some ⟨g,pl*3+2,none⟩)
 |3,vv,_=>vv=.slice l1 ln lq
 |4,vv,_=>vv=.agg #[.string key,.slice ta m tc]
 |5,vv,_=>vv=.agg #[.slice ra l.length rc]
 |6,vv,_=>vv=.func (.func 100) #[.agg #[.slice ra l.length rc]] #[]
 |7,vv,_|8,vv,_=>vv=.tuple #[.int .i64 (pi:Int),.bool ag]
 |9,vv,_|11,vv,_=>vv=.int .i64 (pi:Int)
 |10,vv,_|12,vv,_=>vv=.bool ag
 |_,_,_=>True
theorem DH (g:Nat) (pl:Nat) (ln:Nat) (lq:Nat) (pi:Nat) (m:Nat) (tc:Nat) (rc:Nat) (l1:Option Addr) (ta:Option Addr) (ra:Option Addr) (l:List Pl.Ru) (key:ByteArray) (ag:Bool):∀ jj vv W W',Bel W W'→Nv g pl ln lq pi m tc rc l1 ta ra l key ag jj vv W→Nv g pl ln lq pi m tc rc l1 ta ra l key ag jj vv W':=by
 intro jj vv W W' hb h;match jj with
 |0|1|2|3|4|5|6|7|8|9|10|11|12=>exact h
 |n+13=>exact trivial
def CH (g:Nat) (pl:Nat) (ln:Nat) (lq:Nat) (pi:Nat) (m:Nat) (tc:Nat) (nw:Nat) (l1:Option Addr) (ta:Option Addr) (key:ByteArray):Nat→Value→World→Prop
 |0,vv,_|1,vv,_|2,vv,_|9,vv,_=>vv=.pointer (some ⟨g,pl*3,none⟩)
 |3,vv,_|10,vv,_=>vv=.pointer (some ⟨g,pl*3+2,none⟩)
 |4,vv,_=>vv=.slice l1 ln lq
 |5,vv,_=>vv=.int .i64 (pi:Int)
 |6,vv,_=>vv=.agg #[.string key,.slice ta m tc]
 |7,vv,W=>∃ gg,vv=.slice (some ⟨gg,0,none⟩) 1 1∧W.ownsRow nw 41 2 (.slice (some ⟨gg,0,none⟩) 1 1) 1 [.string key,.slice ta m tc]
 |8,vv,_=>vv=undef
 |_,_,_=>True
theorem tC (g:Nat) (pl:Nat) (ln:Nat) (lq:Nat) (pi:Nat) (m:Nat) (tc:Nat) (nw:Nat) (l1:Option Addr) (ta:Option Addr) (key:ByteArray):∀ jj vv W W',Bel W W'→CH g pl ln lq pi m tc nw l1 ta key jj vv W→CH g pl ln lq pi m tc nw l1 ta key jj vv W':=by
 intro jj vv W W' hb h;match jj with
 |0|1|2|3|4|5|6|8|9|10=>exact h
 |7=>
  obtain⟨gg,h1,h2⟩:=h;exact⟨gg,h1,bT h2 (Frm.bB (S:=fun _=>False) hb) (fun _ _ h=>h)⟩
 |n+11=>exact trivial
theorem Ua (rb mb:Nat) (lv:Value) (at_:Int) (p o m wc:Nat) (ws:List ByteArray) (g n q pl:Nat) (ca cb:List Value) (kind name:ByteArray) (l1:Option Addr) (ln lq:Nat) (L:List Pl.Ln) (cl:List Value) (FL:List Nat) (l:List Pl.Ru) (ra:Option Addr) (rc:Nat) (w0 w:World)
  (fB:aA w rb 124 [.map (some mb),lv,.int .i64 at_,.slice (some ⟨p,o,none⟩) (m+1) wc,.bool false,.slice (some ⟨g,0,none⟩) n q,.int .i64 (pl:Int)]) (B4:ws.length=m+1) (hw:Raw w bm [.row (m+1) (txD ws)] [.slice (some ⟨p,o,none⟩) (m+1) wc]) (AW:∀ x∈ws,x.size≤maxLen)
  (Jw:w.ownsRow (rb+1) 58 3 (.slice (some ⟨g,0,none⟩) n q) n (ca++[.string kind,.string name,.slice l1 ln lq]++cb)) (hca:ca.length=pl*3) (hpn:pl<n) (_:n≤60)
  (qv:w.ownsRow (rb+1) 41 2 (.slice l1 ln lq) ln cl) (hLn:L.length=ln) (yI:Rep w false (bF ln ao) FL (L.flatMap lnD) cl) (yS:ln≤1000)
  (aU:Bel w0 w) (uI:∀ W,Bel w W→(Instr.lookup 121 (.map (some mb)) (.string kind) false).run Tryz.prog W=.ok (.agg #[.slice ra l.length rc]) W)
  (D7:Raw w0 [.row 75 aB] [bV l] [.slice ra l.length rc]) (Is:l.length≤100) (har:∀ r∈l,∀ z∈r.args,1≤z∧z≤6)
  (pi:Nat) (hpi:pi≤L.length) (h1:∀ i,i<pi→cQ l (L.getD i Pl.aK) (Pl.bt ws)<0) (h2:∀ i,pi≤i→i<L.length→0≤cQ l (L.getD i Pl.aK) (Pl.bt ws)) (ag:Bool) (qu:ag=(decide (pi<L.length)&&decide (cQ l (L.getD pi Pl.aK) (Pl.bt ws)=0)))
  (ta:Option Addr) (tc:Nat) (hta:(if wc=1 then (some ⟨p,o,none⟩:Option Addr) else some ⟨p,o+1,none⟩)=ta) (PO:wc - 1=tc) (Ie:Raw w bm [.row m (txD (ws.drop 1))] [.slice ta m tc]):
  Calls Tryz.prog 87 #[.pointer (some ⟨rb,0,none⟩)] w fun e w'=>
   (adC l (Pl.aR L (Pl.bt ws).key) (Pl.bt ws) ag≠0∧e=.returned (.iface 100 (.agg #[.int .i64 at_,.int .i64 (adC l (Pl.aR L (Pl.bt ws).key) (Pl.bt ws) ag:Nat)]))∧Bel w w')∨
   (adC l (Pl.aR L (Pl.bt ws).key) (Pl.bt ws) ag=0∧e=.returned .nilIface∧∃ g' q',w'.ownsRow (rb+1) 58 3 (.slice (some ⟨g,0,none⟩) n q) n (ca++[.string kind,.string name,.slice (some ⟨g',0,none⟩) (ln+1) q']++cb)∧w'.ownsRow (rb+1) 41 2 (.slice (some ⟨g',0,none⟩) (ln+1) q') (ln+1) (cl.take (pi*2)++[.string (Pl.bt ws).key,.slice ta m tc]++cl.drop (pi*2))∧Frm (fun b=>b=g∨(Value.slice l1 ln lq).ownBlock=some b) w w'∧(l1=some ⟨g',0,none⟩∨w.heap.size≤g')):=by
 have kX:=uh fB;have Mk:=uh Jw;have MK:=uh qv;have kg:Hid (∀ u∈cl,u.oneCell'=true):=BJ yI;have tw:=uh hca;have RK:=uh hpn;have yV:=uh uI;have RV:=uh har;have nV:=uh (D7.later aU);have c2:=fB.get 2 _ rfl;have cl_:=fB.own.lt;have AJ:=uh (fun (code:Int) (W:World) (hW:Bel w W)=>vJ rb at_ code W ((hW.cell (p:=⟨rb,2,none⟩) cl_).trans c2) (zL cl_ hW.size));have Jo:Hid (Raw w aV [bD L] [.slice l1 ln lq]):=by
  have q:=tZ (sh:=ao) qv yI (fun h=>by rw[Xs (hLn.trans h)];rfl) (by unfold maxLen;omega);show Raw _ _ _ _;unfold bD;rw[hLn];exact q
 obtain⟨x,hx⟩:∃ x,x=Pl.bt ws:=⟨_,rfl⟩
 have tm:=uh hx;have Um:ws.getD 0 Pl.aJ=x.key:=by rw[hx];rfl
 have TB:ws.drop 1=x.ws:=by rw[hx];rfl
 have iO:x.ws.length=m:=by rw[← TB,Xy];omega
 have Wv:=uh iO;rw[← hx]at h1 h2 qu ⊢;rw[TB]at Ie;have Mn:=uh Ie;have TR:Hid (∀ y∈x.ws,y.size≤maxLen):=fun y hy=>AW y (by rw[← TB]at hy;exact Ys hy);have tu:=uh (fun (X:World) (hX:Bel w X)=>Qn l ra rc Is L (.slice l1 ln lq) x ta tc pi X (nV.out.later hX) (Jo.out.later hX) (by rw[iO];exact Mn.out.later hX) (by omega) hpi h1 h2);have OL:=uh (fun (X:World) (hX:Bel w X)=>NO L (.slice l1 ln lq) x.key X (Jo.out.later hX) (by omega));have RG:=uh (fun (X:World) (hX:Bel w X)=>L3 l ra rc x.key w X hX Is nV.out);rw[← qu]at tu;rw[iO]at tu;obtain⟨lX,Sz⟩:∃ lX,lX=Pl.aR L x.key:=⟨_,rfl⟩
 rw[← Sz]at OL ⊢;have HPI:Hid (pi≤ln):=by show _≤_;omega
 have kC:Hid (ln≤1000):=yS;have D2:Hid (adC l lX x ag=if (Pl.bP l x.key).isSome=false then 5 else if Pl.js l x.key x.ws=false then 7 else if (ag||(decide (0<lX)&& !Pl.iB l x.key))=true then 6 else if lX=10 then 10 else 0):=rfl;obtain⟨key,RL⟩:∃ key,key=x.key:=⟨_,rfl⟩
 rw[← RL]at tu OL RG D2 Um ⊢;have Ea:w.rangeAt g (pl*3) [.string kind,.string name,.slice l1 ln lq]:=by
  rcases Jw.2 with⟨e1,_⟩|⟨g',cap,cur,e1,_,VX,_,_,_,h6⟩
  ·cases e1
  ·injection e1 with e1
   injection e1 with e1
   injection e1 with e1
   subst e1;intro j u hj;have Q7:j<3:=(Xn.1 hj).1;have q:(ca++[.string kind,.string name,.slice l1 ln lq]++cb)[pl*3+j]? =some u:=by
    rw[XG,Ym (by omega),show pl*3+j - ca.length=j by omega,YN (by simpa using Q7)];exact hj
   rw[← h6,XO]at q;simp only[World.cell?,VX];split at q
   ·simpa using q
   ·cases q
 have gh:g<w.heap.size:=by obtain⟨_,cur,ks⟩:=cC Jw (g:=g) rfl;exact eP ks
 have Iy:=uh Ea;have tn:=uh gh;have W8:(0:Int)≤(pl:Int):=by omega
 have WG:(pl:Int)<(n:Int):=by omega
 have y0:w.cell? ⟨p,o,none⟩=some (.string key):=by
  rw[← Um];rcases dK (by rw[B4];exact hw) with⟨e0,_⟩|⟨p',o',c',hv,_,_,aE⟩
  ·omega
  injection hv with g1 _ _
  injection g1 with g1
  injection g1 with e1 e2
  subst e1;subst e2;simpa using aE 0 (by omega)
 have TK:p<w.heap.size:=by
  rcases hw.slice with⟨e0,_⟩|⟨p',o',c',hv,Cg,_⟩
  ·omega
  injection hv with g1 _ _
  injection g1 with g1
  injection g1 with e1 _
  rw[e1];exact Cg
 have HTA:=uh (Xt hta PO);have c0:=fB.get 0 _ rfl;have c3:=fB.get 3 _ rfl;have c4:=fB.get 4 _ rfl;have b0:w.cell? ⟨g,pl*3,none⟩=some (.string kind):=aF Ea 0 _ rfl;clear fB Jw qv yI D7 aU uI har hw AW Ie hta PO Sz RL Um TB hx h1 h2 qu Ea Jo;go_enter Tryz.func87,Tryz.ntmps87
 go_upto_region 3 with fail
 refine RY.bs w zR (Nd rb g n q pl) (Dp _ _ _ _ _) (by kernel_rfl) (by kernel_rfl) (by kernel_rfl) (by kernel_rfl) ?_ ?_
 ·intro ii o' ho a X hX hk hd;have zrb:=kX.out.later hX;have zrbl:=zrb.own.lt;match ii,ho with
  |0,rfl|4,rfl=>
   exact RY.p (.pointer (some ⟨rb,0,none⟩)) (by simp[execOp,go_sem,RY.K hk 0 (.pointer (some ⟨rb,0,none⟩))])
  |1,rfl=>
   exact RY.p (.pointer (some ⟨rb,0,none⟩)) (by simp[execOp,go_sem,RY.E hd 0 18])
  |2,rfl=>
   exact RY.p (.pointer (some ⟨rb,5,none⟩)) (by simp[execOp,go_sem,RY.E hd 1 19])
  |3,rfl=>
   have e20:=RY.E hd 2 20;have ycl_:=zrb.get 5 _ rfl;exact RY.p (.slice (some ⟨g,0,none⟩) n q) (by simp[execOp,go_sem,e20,ycl_])
  |5,rfl=>
   exact RY.p (.pointer (some ⟨rb,0,none⟩)) (by simp[execOp,go_sem,RY.E hd 4 22])
  |6,rfl=>
   exact RY.p (.pointer (some ⟨rb,6,none⟩)) (by simp[execOp,go_sem,RY.E hd 5 23])
  |7,rfl=>
   have e24:=RY.E hd 6 24;have ycl_:=zrb.get 6 _ rfl;exact RY.p (.int .i64 (pl:Int)) (by simp[execOp,go_sem,e24,ycl_])
  |8,rfl=>
   exact RY.p (.pointer (some ⟨g,pl*3,none⟩)) (by simp[execOp,go_sem,RY.E hd 3 21,RY.E hd 7 25,W8,WG])
  |9,rfl=>
   exact RY.p (.pointer (some ⟨g,pl*3,none⟩)) (by simp[execOp,go_sem,RY.E hd 8 26])
  |n+10,ho=>simp at ho
 intro X vs hX bn;have q3:vs 3=_:=bn 9 _ 3 rfl rfl;simp only[RY.aC,Act.put,so,As,An];rw[q3];generalize vs 18=s18,vs 19=s19,vs 20=s20,vs 21=s21,vs 22=s22,vs 23=s23,vs 24=s24,vs 25=s25,vs 26=s26;clear bn q3;have oX:Hid (Bel w X):=hX;obtain⟨w1,gB⟩:∃ w1,w1=X:=⟨_,rfl⟩
 rw[← gB]at oX ⊢;clear gB hX;have lG:(0:Int)<(m:Int)+1:=by omega
 have f1:∀ W,Bel w W→W.cell? ⟨rb,0,none⟩=some (.map (some mb))∧W.cell? ⟨g,pl*3,none⟩=some (.string kind)∧rb<W.heap.size∧g<W.heap.size:=fun W h=>⟨(h.cell (p:=⟨rb,0,none⟩) cl_).trans c0,(h.cell (p:=⟨g,pl*3,none⟩) gh).trans b0,zL cl_ h.size,zL gh h.size⟩
 have HF1:=uh f1;have f2:∀ W,Bel w W→W.cell? ⟨rb,3,none⟩=some (.slice (some ⟨p,o,none⟩) (m+1) wc)∧W.cell? ⟨p,o,none⟩=some (.string key)∧rb<W.heap.size∧p<W.heap.size:=fun W h=>⟨(h.cell (p:=⟨rb,3,none⟩) cl_).trans c3,(h.cell (p:=⟨p,o,none⟩) TK).trans y0,zL cl_ h.size,zL TK h.size⟩
 have PR:=uh f2;clear f1 f2 c0 c2 c3 c4 b0 y0 TK gh cl_;have Ek:Bel w (w1.alloc (.cells #[.slice none 0 0] 141)).drew:=XF (af oX.out _);obtain⟨a0,a1_,a2_,a3_⟩:=HF1.out w1.drew (XF oX.out);obtain⟨b0,b1_,b2_,b3_⟩:=HF1.out _ Ek;have zk:=yV.out w1.drew (XF oX.out);have zka:=yV.out _ Ek;clear Ek;go_upto_region 4 with fail
 go_region
 all_goals
  clear a0 a1_ a2_ a3_ b0 b1_ b2_ b3_ zk zka;obtain⟨w4,p4⟩:∃ w4,w4=(w1.alloc (.cells #[.slice ra l.length rc] 141)).drew:=⟨_,rfl⟩
  obtain⟨q4,PE⟩:∃ q4,q4=w1.heap.size:=⟨_,rfl⟩
  have Vf:Hid (aA w4 q4 141 [.slice ra l.length rc]):=by
   show aA _ _ _ _;rw[p4,PE];exact(aA.new w1 [.slice ra l.length rc] 141 _ rfl).later (XF zR)
  have We:Hid (Bel w w4):=by show Below _ _ _;rw[p4];exact XF (af oX.out _)
  have Ek:Bel w (w4.alloc (.cells #[.string {data:=#[]},.slice none 0 0] 41)).drew:=XF (af We.out _);obtain⟨a0,a1_,a2_,a3_⟩:=PR.out w4.drew (XF We.out);obtain⟨b0,b1_,b2_,b3_⟩:=PR.out _ Ek;clear Ek;go_upto_region 5 with fail
  rw[← p4,← PE];clear p4 PE;go_region
  all_goals
   clear a0 a1_ a2_ a3_ b0 b1_ b2_ b3_;obtain⟨w5,B5⟩:∃ w5,w5=(w4.alloc (.cells #[.string key,.slice ta m tc] 41)).drew:=⟨_,rfl⟩
   obtain⟨q5,Wz⟩:∃ q5,q5=w4.heap.size:=⟨_,rfl⟩
   have O9:Hid (aA w5 q5 41 [.string key,.slice ta m tc]):=by
    show aA _ _ _ _;rw[B5,Wz];exact(aA.new w4 [.string key,.slice ta m tc] 41 _ rfl).later (XF zR)
   have H45:Hid (Bel w4 w5):=by show Below _ _ _;rw[B5];exact XF (af zR _)
   have La:Hid (Bel w w5):=ae We.out H45.out;have OW:=uh (Vf.out.later H45.out);have e4:=OW.out.get 0 _ rfl;have e4l:=OW.out.own.lt;have e5:=O9.out.get 0 _ rfl;have e5l:=O9.out.own.lt;have HRU:=uh (RG.out w5 La.out);go_upto_region 6 with fail
   rw[HTA.out.1,HTA.out.2];rw[← B5,← Wz];clear B5 Wz;go_wp2_with fail
   refine HRU.out.mono ?_;rintro e Xd ⟨SD,lM⟩;obtain⟨r0,ra1,rn1,rc1,ra3,rn3,rc3,he,I8⟩:=xO SD RV.out;subst he;have DR:=uh I8;clear SD I8 HRU e4 e4l e5 e5l;obtain⟨mn,mL⟩:∃ mn,mn=Pl.iB l key:=⟨_,rfl⟩
   obtain⟨kn,dy⟩:∃ kn,kn=(Pl.bP l key).isSome:=⟨_,rfl⟩
   rw[← mL,← dy]at DR ⊢;rw[← mL,← dy]at D2;clear mL dy;obtain⟨w6,nR⟩:∃ w6,w6=Xd.alloc (.cells #[.string r0,.slice ra1 rn1 rc1,.bool mn,.slice ra3 rn3 rc3] 75):=⟨_,rfl⟩
   obtain⟨q6,Vz⟩:∃ q6,q6=Xd.heap.size:=⟨_,rfl⟩
   have U3:Hid (Bel w5 w6):=by show Below _ _ _;rw[nR];exact af lM _
   have Wo:Hid (aA w6 q6 75 [.string r0,.slice ra1 rn1 rc1,.bool mn,.slice ra3 rn3 rc3]):=by show aA _ _ _ _;rw[nR,Vz];exact aA.new Xd [.string r0,.slice ra1 rn1 rc1,.bool mn,.slice ra3 rn3 rc3] 75 _ rfl
   have TU:Hid (Bel w w6):=ae La.out U3.out;have DV:=uh (OW.out.later U3.out);have wP:=uh (O9.out.later U3.out);have cU:Hid (w6.rangeAt g (pl*3) [.string kind,.string name,.slice l1 ln lq]):=aj Iy.out tn.out TU.out;have de:Hid (g<w6.heap.size):=zL tn.out TU.out.size;have nO:=uh (fun (X:World) (hX:Bel w6 X)=>OL.out X (ae TU.out hX));go_upto_region 7 with fail
   rw[← nR,← Vz];clear nR Vz lM;refine RY.bs w6 zR (Nx g pl q5 ln lq lX l1 key) (Dj _ _ _ _ _ _ _ _) (by kernel_rfl) (by kernel_rfl) (by kernel_rfl) (by kernel_rfl) ?_ ?_
   ·intro ii o' ho a X hX hk hd;have zq5:=wP.out.later hX;have zq5l:=zq5.own.lt;match ii,ho with
    |0,rfl=>
     exact RY.p (.pointer (some ⟨g,pl*3,none⟩)) (by simp[execOp,go_sem,RY.K hk 3 (.pointer (some ⟨g,pl*3,none⟩))])
    |1,rfl=>
     exact RY.p (.pointer (some ⟨g,pl*3,none⟩)) (by simp[execOp,go_sem,RY.E hd 0 57])
    |2,rfl=>
     exact RY.p (.pointer (some ⟨g,pl*3+2,none⟩)) (by simp[execOp,go_sem,RY.E hd 1 58])
    |3,rfl=>
     have e59:=RY.E hd 2 59;have ypl_:=zL de.out hX.size;have ycl_:X.cell? ⟨g,pl*3+2,none⟩=some (.slice l1 ln lq):=by have q:=aF (aj cU.out de.out hX) 2 _ rfl;simpa using q
     exact RY.p (.slice l1 ln lq) (by simp[execOp,go_sem,e59,ycl_])
    |4,rfl=>
     exact RY.p (.pointer (some ⟨q5,0,none⟩)) (by simp[execOp,go_sem,RY.K hk 5 (.pointer (some ⟨q5,0,none⟩))])
    |5,rfl=>
     have e61:=RY.E hd 4 61;have ycl_:=zq5.get 0 _ rfl;exact RY.p (.string key) (by simp[execOp,go_sem,e61,ycl_])
    |6,rfl=>
     have e60:=RY.E hd 3 60;have e62:=RY.E hd 5 62;refine Xk ⟨116,#[.slice l1 ln lq,.string key],by simp[go_sem,e60,e62],(nO.out X hX).mono ?_⟩;rintro e W' ⟨rfl,hb⟩;exact⟨_,rfl,hb,rfl⟩
    |7,rfl=>
     exact RY.p (.int .i64 (lX:Int)) (by simp[execOp,go_sem,RY.E hd 6 63])
    |n+8,ho=>simp at ho
   intro X vs hX bn;have q8:vs 8=_:=bn 7 _ 8 rfl rfl;simp only[RY.aC,Act.put,so,As,An];rw[q8];generalize vs 57=s57,vs 58=s58,vs 59=s59,vs 60=s60,vs 61=s61,vs 62=s62,vs 63=s63;clear bn q8;have SA:Hid (Bel w X):=ae TU.out hX;have HQ4_:=uh (DV.out.later hX);have HQ5_:=uh (wP.out.later hX);have Sw:=uh (Wo.out.later hX);obtain⟨w7,JF⟩:∃ w7,w7=X:=⟨_,rfl⟩
   rw[← JF]at SA HQ4_ HQ5_ Sw ⊢;clear JF hX;replace DV:=HQ4_
   replace wP:=HQ5_
   clear HQ4_ HQ5_;replace cU:Hid (w7.rangeAt g (pl*3) [.string kind,.string name,.slice l1 ln lq]):=aj Iy.out tn.out SA.out
   replace de:Hid (g<w7.heap.size):=zL tn.out SA.out.size
   have Ph:=uh (fun (X:World) (hX:Bel w7 X)=>tu.out X (ae SA.out hX));go_upto_region 8 with fail
   refine RY.bs w7 zR (Nv g pl ln lq pi m tc rc l1 ta ra l key ag) (DH _ _ _ _ _ _ _ _ _ _ _ _ _ _) (by kernel_rfl) (by kernel_rfl) (by kernel_rfl) (by kernel_rfl) ?_ ?_
   ·intro ii o' ho a X hX hk hd;have zq5:=wP.out.later hX;have zq5l:=zq5.own.lt;have zq4:=DV.out.later hX;have zq4l:=zq4.own.lt;match ii,ho with
    |0,rfl=>
     exact RY.p (.pointer (some ⟨g,pl*3,none⟩)) (by simp[execOp,go_sem,RY.K hk 3 (.pointer (some ⟨g,pl*3,none⟩))])
    |1,rfl=>
     exact RY.p (.pointer (some ⟨g,pl*3,none⟩)) (by simp[execOp,go_sem,RY.E hd 0 65])
    |2,rfl=>
     exact RY.p (.pointer (some ⟨g,pl*3+2,none⟩)) (by simp[execOp,go_sem,RY.E hd 1 66])
    |3,rfl=>
     have e67:=RY.E hd 2 67;have ypl_:=zL de.out hX.size;have ycl_:X.cell? ⟨g,pl*3+2,none⟩=some (.slice l1 ln lq):=by have q:=aF (aj cU.out de.out hX) 2 _ rfl;simpa using q
     exact RY.p (.slice l1 ln lq) (by simp[execOp,go_sem,e67,ycl_])
    |4,rfl=>
     have v5:a.eval (.tmp 5)=.pointer (some ⟨q5,0,none⟩):=(hk 5 (by kernel_rfl)).trans rfl;exact No ⟨_,X,ak 41 _ rfl q5 0 v5 [.string key,.slice ta m tc] _ zq5.at_ Tryz.underlying41 rfl (by kernel_rfl),zR,rfl⟩
    |5,rfl=>
     have v4:a.eval (.tmp 4)=.pointer (some ⟨q4,0,none⟩):=(hk 4 (by kernel_rfl)).trans rfl;exact No ⟨_,X,ak 141 _ rfl q4 0 v4 [.slice ra l.length rc] _ zq4.at_ Tryz.underlying141 rfl (by kernel_rfl),zR,rfl⟩
    |6,rfl=>
     exact RY.p (.func (.func 100) #[.agg #[.slice ra l.length rc]] #[]) (by simp[execOp,go_sem,RY.E hd 5 70])
    |7,rfl=>
     have e68:=RY.E hd 3 68;have e69:=RY.E hd 4 69;have e71:=RY.E hd 6 71;refine Xk ⟨117,#[.slice l1 ln lq,.agg #[.string key,.slice ta m tc],.func (.func 100) #[.agg #[.slice ra l.length rc]] #[]],by simp[go_sem,e68,e69,e71],(Ph.out X hX).mono ?_⟩;rintro e W' ⟨rfl,hb⟩;exact⟨_,rfl,hb,rfl⟩
    |8,rfl=>
     exact RY.p (.tuple #[.int .i64 (pi:Int),.bool ag]) (by simp[execOp,go_sem,RY.E hd 7 72])
    |9,rfl=>
     exact RY.p (.int .i64 (pi:Int)) (by simp[execOp,go_sem,RY.E hd 8 64])
    |10,rfl=>
     exact RY.p (.bool ag) (by simp[execOp,go_sem,RY.E hd 8 64])
    |11,rfl=>
     exact RY.p (.int .i64 (pi:Int)) (by simp[execOp,go_sem,RY.E hd 9 73])
    |12,rfl=>
     exact RY.p (.bool ag) (by simp[execOp,go_sem,RY.E hd 10 74])
    |n+13,ho=>simp at ho
   intro X vs hX bn;have q9:vs 9=_:=bn 11 _ 9 rfl rfl;have q10:vs 10=_:=bn 12 _ 10 rfl rfl;simp only[RY.aC,Act.put,so,As,An];rw[q9,q10];generalize vs 65=s65,vs 66=s66,vs 67=s67,vs 68=s68,vs 69=s69,vs 70=s70,vs 71=s71,vs 72=s72,vs 64=s64,vs 73=s73,vs 74=s74;clear bn q9 q10;have gW:Hid (Bel w X):=ae SA.out hX;have HQ5_:=uh (wP.out.later hX);have uJ:=uh (Sw.out.later hX);obtain⟨wq,yN⟩:∃ wq,wq=X:=⟨_,rfl⟩
   rw[← yN]at gW HQ5_ uJ ⊢;clear yN hX;replace wP:=HQ5_
   clear HQ5_;replace cU:Hid (wq.rangeAt g (pl*3) [.string kind,.string name,.slice l1 ln lq]):=aj Iy.out tn.out gW.out
   replace de:Hid (g<wq.heap.size):=zL tn.out gW.out.size
   have f0:=uJ.out.get 0 _ rfl;have f1:=uJ.out.get 1 _ rfl;have f2:=uJ.out.get 2 _ rfl;have f3:=uJ.out.get 3 _ rfl;have fl:=uJ.out.own.lt;have k1_:=wP.out.get 1 _ rfl;have kl:=wP.out.own.lt;cases kn
   ·have gE:Hid (adC l lX x ag=5):=D2.out;go_wp2_with (first|(go_at_call 97;refine(kc.out _ gW.out).mono ?_;rintro e w9 ⟨rfl,hU⟩;have uR:Hid (Bel w w9):=ae gW.out hU;have m2:=(uJ.out.later hU).get 2 _ rfl;have ml:=(uJ.out.later hU).own.lt)|(go_at_call 113;refine(AJ.out 5 _ gW.out).mono ?_;rintro e w8 ⟨rfl,rfl⟩))
    go_ret;exact No ⟨by rw[gE.out];decide,by rw[gE.out];rfl,gW.out⟩
   have Sr:=uh (fun (X:World) (hX:Bel w X)=>DR.out rfl X hX x.ws (.slice ta m tc) (by have q:=Mn.out.later hX;rw[Wv.out];exact q) TR.out);obtain⟨ft,Qi⟩:∃ ft,ft=Pl.js l key x.ws:=⟨_,rfl⟩
   rw[← Qi]at Sr D2;clear Qi;have kc:=Sr;cases ft
   ·have gE:Hid (adC l lX x ag=7):=D2.out;go_wp2_with (first|(go_at_call 97;refine(kc.out _ gW.out).mono ?_;rintro e w9 ⟨rfl,hU⟩;have uR:Hid (Bel w w9):=ae gW.out hU;have m2:=(uJ.out.later hU).get 2 _ rfl;have ml:=(uJ.out.later hU).own.lt)|(go_at_call 113;refine(AJ.out 7 _ uR.out).mono ?_;rintro e w8 ⟨rfl,rfl⟩))
    go_ret;exact No ⟨by rw[gE.out];decide,by rw[gE.out];rfl,uR.out⟩
   have Jg:Hid (adC l lX x ag=if (ag||(decide (0<lX)&& !mn))=true then 6 else if lX=10 then 10 else 0):=D2.out;cases ag
   rotate_left
   ·have gE:Hid (adC l lX x true=6):=by show _=_;rw[Jg.out];rfl
    go_wp2_with (first|(go_at_call 97;refine(kc.out _ gW.out).mono ?_;rintro e w9 ⟨rfl,hU⟩;have uR:Hid (Bel w w9):=ae gW.out hU;have m2:=(uJ.out.later hU).get 2 _ rfl;have ml:=(uJ.out.later hU).own.lt)|(go_at_call 113;refine(AJ.out 6 _ uR.out).mono ?_;rintro e w8 ⟨rfl,rfl⟩))
    go_ret;exact No ⟨by rw[gE.out];decide,by rw[gE.out];rfl,uR.out⟩
   by_cases hh0:0<lX
   ·have d1:(0:Int)<(lX:Int):=by omega
    cases mn
    ·have gE:Hid (adC l lX x false=6):=by show _=_;rw[Jg.out];simp[hh0]
     go_wp2_with (first|(go_at_call 97;refine(kc.out _ gW.out).mono ?_;rintro e w9 ⟨rfl,hU⟩;have uR:Hid (Bel w w9):=ae gW.out hU;have m2:=(uJ.out.later hU).get 2 _ rfl;have ml:=(uJ.out.later hU).own.lt)|(go_at_call 113;refine(AJ.out 6 _ uR.out).mono ?_;rintro e w8 ⟨rfl,rfl⟩))
     go_ret;exact No ⟨by rw[gE.out];decide,by rw[gE.out];rfl,uR.out⟩
    ·by_cases Et:lX=10
     ·have gE:Hid (adC l lX x false=10):=by show _=_;rw[Jg.out];simp[Et]
      have d2:((lX:Int)==10)=true:=by simp;omega
      go_wp2_with (first|(go_at_call 97;refine(kc.out _ gW.out).mono ?_;rintro e w9 ⟨rfl,hU⟩;have uR:Hid (Bel w w9):=ae gW.out hU;have m2:=(uJ.out.later hU).get 2 _ rfl;have ml:=(uJ.out.later hU).own.lt)|(go_at_call 113;refine(AJ.out 10 _ uR.out).mono ?_;rintro e w8 ⟨rfl,rfl⟩))
      go_ret;exact No ⟨by rw[gE.out];decide,by rw[gE.out];rfl,uR.out⟩
     ·have gE:Hid (adC l lX x false=0):=by show _=_;rw[Jg.out];simp[Et]
      have d2:((lX:Int)==10)=false:=by simp;omega
      go_upto_region 17 with(go_at_call 97;refine(kc.out _ gW.out).mono ?_;rintro e w9 ⟨rfl,hU⟩;have uR:=uh hU;have m2:=(uJ.out.later hU).get 2 _ rfl;have ml:=(uJ.out.later hU).own.lt)
      clear m2 ml;obtain⟨wo,RM⟩:∃ wo,wo=w9:=⟨_,rfl⟩
      rw[← RM]at uR ⊢;clear RM f0 f1 f2 f3 fl k1_ kl;have si:Hid (Bel w wo):=ae gW.out uR.out;have Ps:=uh (wP.out.later uR.out);obtain⟨wp_,Rl⟩:∃ wp_,wp_=wq:=⟨_,rfl⟩
      clear Rl wp_;replace cU:Hid (wo.rangeAt g (pl*3) [.string kind,.string name,.slice l1 ln lq]):=aj Iy.out tn.out si.out
      replace de:Hid (g<wo.heap.size):=zL tn.out si.out.size
      have AO:Hid (wo.ownsRow (rb+1) 58 3 (.slice (some ⟨g,0,none⟩) n q) n (ca++[.string kind,.string name,.slice l1 ln lq]++cb)):=bT Mk.out (Frm.bB (S:=fun _=>False) si.out) (fun _ _ h=>h);have AT:Hid (wo.ownsRow (rb+1) 41 2 (.slice l1 ln lq) ln cl):=bT MK.out (Frm.bB (S:=fun _=>False) si.out) (fun _ _ h=>h);have JK:Hid (∀ gg,l1=some ⟨gg,0,none⟩→gg<wo.heap.size):=fun gg hg=>by
       obtain⟨_,cur,ks⟩:=cC AT.out (g:=gg) (by rw[hg];rfl);exact eP ks
      have mP:Hid (rb+1≤wo.heap.size):=Xg (cC AO.out (g:=g) rfl).1 (Nat.le_of_lt de.out);replace wP:=Ps
      replace gW:=si
      refine RY.nY wo zR (CH g pl ln lq pi m tc wo.heap.size l1 ta key) (tC _ _ _ _ _ _ _ _ _ _ _) [0,9,10] (fun j u=>CH g pl ln lq pi m tc wo.heap.size l1 ta key j u wo) (by intro j hj u W;simp only[XD,List.not_mem_nil,or_false]at hj;rcases hj with rfl|rfl|rfl<;>exact Iff.rfl) (fun u W'=>∃ g' q',u=.slice (some ⟨g',0,none⟩) (ln+1) q'∧W'.ownsRow (rb+1) 41 2 (.slice (some ⟨g',0,none⟩) (ln+1) q') (ln+1) (cl.take (pi*2)++[.string key,.slice ta m tc]++cl.drop (pi*2))∧Frm (fun b=>(Value.slice l1 ln lq).ownBlock=some b) wo W'∧(l1=some ⟨g',0,none⟩∨wo.heap.size≤g')) (fun W'=>∃ g' q',W'.ownsRow (rb+1) 58 3 (.slice (some ⟨g,0,none⟩) n q) n (ca++[.string kind,.string name,.slice (some ⟨g',0,none⟩) (ln+1) q']++cb)∧W'.ownsRow (rb+1) 41 2 (.slice (some ⟨g',0,none⟩) (ln+1) q') (ln+1) (cl.take (pi*2)++[.string key,.slice ta m tc]++cl.drop (pi*2))∧Frm (fun b=>b=g∨(Value.slice l1 ln lq).ownBlock=some b) wo W'∧(l1=some ⟨g',0,none⟩∨wo.heap.size≤g')) 11 8 12 (by decide) (by kernel_rfl) (by kernel_rfl) (by kernel_rfl) (by kernel_rfl) rfl [8,10] (by kernel_rfl) (by kernel_rfl) [4,5,7] (by kernel_rfl) (by kernel_rfl) (by kernel_rfl) _ _ rfl rfl rfl (by kernel_rfl) ?_ ?_ ?_ (by decide) ?_
      ·intro ii o' ho wJ Ix a X pI hk hd;match ii,ho with
       |0,rfl=>
        exact No ⟨.pointer (some ⟨g,pl*3,none⟩),X,by simp[execOp,go_sem,RY.K hk 3 (.pointer (some ⟨g,pl*3,none⟩))],(fun _=>rfl),zR,rfl⟩
       |1,rfl=>
        have hX:=pI (by decide);exact No ⟨.pointer (some ⟨g,pl*3,none⟩),X,by simp[execOp,go_sem,RY.K hk 3 (.pointer (some ⟨g,pl*3,none⟩))],(fun _=>rfl),zR,rfl⟩
       |2,rfl=>
        have hX:=pI (by decide);have e107:a.tmps[107]?.getD undef=.pointer (some ⟨g,pl*3,none⟩):=(RY.ai a 107).trans (hd 1 _ 107 rfl rfl ⟨⟨1,.data⟩,by simp,rfl,rfl⟩ (by decide) (by decide) (by decide));exact No ⟨.pointer (some ⟨g,pl*3,none⟩),X,by simp[execOp,go_sem,e107],(fun _=>rfl),zR,rfl⟩
       |3,rfl=>
        have hX:=pI (by decide);have e108:a.tmps[108]?.getD undef=.pointer (some ⟨g,pl*3,none⟩):=(RY.ai a 108).trans (hd 2 _ 108 rfl rfl ⟨⟨2,.data⟩,by simp,rfl,rfl⟩ (by decide) (by decide) (by decide));exact No ⟨.pointer (some ⟨g,pl*3+2,none⟩),X,by simp[execOp,go_sem,e108],(fun _=>rfl),zR,rfl⟩
       |4,rfl=>
        have hX:=pI (by decide);have zq5:=wP.out.later hX;have zq5l:=zq5.own.lt;have e109:a.tmps[109]?.getD undef=.pointer (some ⟨g,pl*3+2,none⟩):=(RY.ai a 109).trans (hd 3 _ 109 rfl rfl ⟨⟨3,.data⟩,by simp,rfl,rfl⟩ (by decide) (by decide) (by decide));have ypl_:=zL de.out hX.size;have ycl_:X.cell? ⟨g,pl*3+2,none⟩=some (.slice l1 ln lq):=by have q:=aF (aj cU.out de.out hX) 2 _ rfl;simpa using q
        exact No ⟨.slice l1 ln lq,X,by simp[execOp,go_sem,e109,ycl_],(fun _=>rfl),zR,rfl⟩
       |5,rfl=>
        have hX:=pI (by decide);exact No ⟨.int .i64 (pi:Int),X,by simp[execOp,go_sem,RY.K hk 9 (.int .i64 (pi:Int))],(fun _=>rfl),zR,rfl⟩
       |6,rfl=>
        have hX:=pI (by decide);have zq5:=wP.out.later hX;have zq5l:=zq5.own.lt;have v5:a.eval (.tmp 5)=.pointer (some ⟨q5,0,none⟩):=(hk 5 (by kernel_rfl)).trans rfl;exact No ⟨_,X,ak 41 _ rfl q5 0 v5 [.string key,.slice ta m tc] _ zq5.at_ Tryz.underlying41 rfl (by kernel_rfl),(fun _=>rfl),zR,rfl⟩
       |7,rfl=>
        have hX:=pI (by decide);have zq5:=wP.out.later hX;have zq5l:=zq5.own.lt;have e112:a.tmps[112]?.getD undef=.agg #[.string key,.slice ta m tc]:=(RY.ai a 112).trans (hd 6 _ 112 rfl rfl ⟨⟨6,.data⟩,by simp,rfl,rfl⟩ (by decide) (by decide) (by decide));exact No ⟨.slice (some ⟨X.heap.size,0,none⟩) 1 1,X.alloc (.cells #[.string key,.slice ta m tc] 41),by simp[execOp,go_sem,e112],(fun h=>absurd h (by decide)),af zR _,X.heap.size,rfl,Bk X wo.heap.size _ _ hX.size⟩
       |8,ho=>
        exact absurd rfl Ix
       |9,rfl=>
        have e106:a.tmps[106]?.getD undef=.pointer (some ⟨g,pl*3,none⟩):=(RY.ai a 106).trans (hd 0 _ 106 rfl rfl ⟨⟨0,.data⟩,by simp,rfl,rfl⟩ (by decide) (by decide) (by decide));exact No ⟨.pointer (some ⟨g,pl*3,none⟩),X,by simp[execOp,go_sem,e106],(fun _=>rfl),zR,rfl⟩
       |10,rfl=>
        have e115:a.tmps[115]?.getD undef=.pointer (some ⟨g,pl*3,none⟩):=(RY.ai a 115).trans (hd 9 _ 115 rfl rfl ⟨⟨9,.data⟩,by simp,rfl,rfl⟩ (by decide) (by decide) (by decide));exact No ⟨.pointer (some ⟨g,pl*3+2,none⟩),X,by simp[execOp,go_sem,e115],(fun _=>rfl),zR,rfl⟩
       |n+11,ho=>omega
      ·intro a X hX hk hd;have e110:a.tmps[110]?.getD undef=.slice l1 ln lq:=(RY.ai a 110).trans (hd 4 _ 110 rfl rfl ⟨⟨4,.data⟩,by simp,rfl,rfl⟩ (by decide) (by decide));have e111:a.tmps[111]?.getD undef=.int .i64 (pi:Int):=(RY.ai a 111).trans (hd 5 _ 111 rfl rfl ⟨⟨5,.data⟩,by simp,rfl,rfl⟩ (by decide) (by decide));obtain⟨g113,q113,I4⟩:=hd 7 _ 113 rfl rfl ⟨⟨7,.data⟩,by simp,rfl,rfl⟩ (by decide) (by decide);have e113:a.tmps[113]?.getD undef=.slice (some ⟨g113,0,none⟩) 1 1:=(RY.ai a 113).trans q113;refine⟨118,#[.slice l1 ln lq,.int .i64 (pi:Int),.slice (some ⟨g113,0,none⟩) 1 1],by simp[go_sem,e110,e111,e113],(FT (rb+1) X l1 ln lq cl [.string key,.slice ta m tc] 1 (bT AT.out (Frm.bB (S:=fun _=>False) hX) (fun _ _ h=>h)) wo.heap.size (.slice (some ⟨g113,0,none⟩) 1 1) kg.out (by simp[Value.oneCell']) I4 (by decide) (fun gg hg=>JK.out gg hg) pi HPI.out (by have:=kC.out;omega) (Xg mP.out hX.size)).mono ?_⟩;rintro e W' ⟨g',q',rfl,h1,h2,h3⟩;exact⟨_,rfl,g',q',rfl,h1,((Frm.bB hX).trans (h2.frm.mono (fun b ⟨gg,e1,e2⟩=>by rw[e1,e2];rfl))),h3.imp id (fun h=>Xg hX.size h)⟩
      ·intro a X vals LG hk K8 hd;obtain⟨g',q',e1,h1,h2,h3⟩:=LG;have e114:a.eval (.tmp 114)=_:=(hd 8 _ 114 rfl rfl ⟨⟨8,.data⟩,by simp,rfl,rfl⟩ (by decide)).trans e1;have e116:a.eval (.tmp 116)=.pointer (some ⟨g,pl*3+2,none⟩):=(hd 10 _ 116 rfl rfl ⟨⟨10,.data⟩,by simp,rfl,rfl⟩ (by decide)).trans (K8 10 (by decide));have hb:=bT AO.out h2 (fun gg yY e=>iy AO.out AT.out (by decide) yY e);obtain⟨hc,hl,hf⟩:=tF hb (j:=pl*3+2) (by have:=RK.out;omega);have e114':a.tmps[114]?.getD undef=_:=(RY.ai a 114).trans e114;have e116':a.tmps[116]?.getD undef=_:=(RY.ai a 116).trans e116;obtain⟨old,hc⟩:=hc;refine⟨X.setCell ⟨g,pl*3+2,none⟩ (.slice (some ⟨g',0,none⟩) (ln+1) q'),by simp[execOp,go_sem,e114',e116',hc,hf],g',q', ?_, ?_, ?_,h3⟩
       ·have hs:=xZ hb (pl*3+2) (.slice (some ⟨g',0,none⟩) (ln+1) q');rw[yu _ _ _ _ _ _ tw.out]at hs;exact hs
       ·exact bT h1 ((Marks.sc (S:=fun b=>b=g) X rfl (pl*3+2) _).frm (fun _ h=>h)) (fun gg yY e=>iy h1 hb (by decide) yY (by rw[e];rfl))
       ·exact(h2.mono (fun _ h=>Xk h)).trans ((Marks.sc (S:=fun b=>b=g) X rfl (pl*3+2) _).frm (fun _ h=>No h))
      ·intro vs X PJ;simp only[RY.aC,Act.put,so,As,An];generalize vs 106=s106,vs 107=s107,vs 108=s108,vs 109=s109,vs 110=s110,vs 111=s111,vs 112=s112,vs 113=s113,vs 114=s114,vs 115=s115,vs 116=s116;obtain⟨g',q',Jw,qv,k9,th⟩:=PJ;have IG:Hid (l1=some ⟨g',0,none⟩∨w.heap.size≤g'):=th.imp id (fun h=>Xg gW.out.size h);have fS:=uh (Xt Jw (Xt qv k9));clear Jw qv k9 th;go_wp2;go_ret;refine Xk ⟨gE.out,rfl,g',q',fS.out.1,fS.out.2.1,(Frm.bB gW.out).trans fS.out.2.2,IG.out⟩
   ·have d1:¬ ((0:Int)<(lX:Int)):=by omega
    have gE:Hid (adC l lX x false=0):=by show _=_;rw[Jg.out];simp[hh0];omega
    have d2:((lX:Int)==10)=false:=by simp;omega
    go_upto_region 17 with(go_at_call 97;refine(kc.out _ gW.out).mono ?_;rintro e w9 ⟨rfl,hU⟩;have uR:=uh hU;have m2:=(uJ.out.later hU).get 2 _ rfl;have ml:=(uJ.out.later hU).own.lt)
    clear m2 ml;obtain⟨wo,RM⟩:∃ wo,wo=w9:=⟨_,rfl⟩
    rw[← RM]at uR ⊢;clear RM f0 f1 f2 f3 fl k1_ kl;have si:Hid (Bel w wo):=ae gW.out uR.out;have Ps:=uh (wP.out.later uR.out);obtain⟨wp_,Rl⟩:∃ wp_,wp_=wq:=⟨_,rfl⟩
    clear Rl wp_;replace cU:Hid (wo.rangeAt g (pl*3) [.string kind,.string name,.slice l1 ln lq]):=aj Iy.out tn.out si.out
    replace de:Hid (g<wo.heap.size):=zL tn.out si.out.size
    have AO:Hid (wo.ownsRow (rb+1) 58 3 (.slice (some ⟨g,0,none⟩) n q) n (ca++[.string kind,.string name,.slice l1 ln lq]++cb)):=bT Mk.out (Frm.bB (S:=fun _=>False) si.out) (fun _ _ h=>h);have AT:Hid (wo.ownsRow (rb+1) 41 2 (.slice l1 ln lq) ln cl):=bT MK.out (Frm.bB (S:=fun _=>False) si.out) (fun _ _ h=>h);have JK:Hid (∀ gg,l1=some ⟨gg,0,none⟩→gg<wo.heap.size):=fun gg hg=>by
     obtain⟨_,cur,ks⟩:=cC AT.out (g:=gg) (by rw[hg];rfl);exact eP ks
    have mP:Hid (rb+1≤wo.heap.size):=Xg (cC AO.out (g:=g) rfl).1 (Nat.le_of_lt de.out);replace wP:=Ps
    replace gW:=si
    refine RY.nY wo zR (CH g pl ln lq pi m tc wo.heap.size l1 ta key) (tC _ _ _ _ _ _ _ _ _ _ _) [0,9,10] (fun j u=>CH g pl ln lq pi m tc wo.heap.size l1 ta key j u wo) (by intro j hj u W;simp only[XD,List.not_mem_nil,or_false]at hj;rcases hj with rfl|rfl|rfl<;>exact Iff.rfl) (fun u W'=>∃ g' q',u=.slice (some ⟨g',0,none⟩) (ln+1) q'∧W'.ownsRow (rb+1) 41 2 (.slice (some ⟨g',0,none⟩) (ln+1) q') (ln+1) (cl.take (pi*2)++[.string key,.slice ta m tc]++cl.drop (pi*2))∧Frm (fun b=>(Value.slice l1 ln lq).ownBlock=some b) wo W'∧(l1=some ⟨g',0,none⟩∨wo.heap.size≤g')) (fun W'=>∃ g' q',W'.ownsRow (rb+1) 58 3 (.slice (some ⟨g,0,none⟩) n q) n (ca++[.string kind,.string name,.slice (some ⟨g',0,none⟩) (ln+1) q']++cb)∧W'.ownsRow (rb+1) 41 2 (.slice (some ⟨g',0,none⟩) (ln+1) q') (ln+1) (cl.take (pi*2)++[.string key,.slice ta m tc]++cl.drop (pi*2))∧Frm (fun b=>b=g∨(Value.slice l1 ln lq).ownBlock=some b) wo W'∧(l1=some ⟨g',0,none⟩∨wo.heap.size≤g')) 11 8 12 (by decide) (by kernel_rfl) (by kernel_rfl) (by kernel_rfl) (by kernel_rfl) rfl [8,10] (by kernel_rfl) (by kernel_rfl) [4,5,7] (by kernel_rfl) (by kernel_rfl) (by kernel_rfl) _ _ rfl rfl rfl (by kernel_rfl) ?_ ?_ ?_ (by decide) ?_
    ·intro ii o' ho wJ Ix a X pI hk hd;match ii,ho with
     |0,rfl=>
      exact No ⟨.pointer (some ⟨g,pl*3,none⟩),X,by simp[execOp,go_sem,RY.K hk 3 (.pointer (some ⟨g,pl*3,none⟩))],(fun _=>rfl),zR,rfl⟩
     |1,rfl=>
      have hX:=pI (by decide);exact No ⟨.pointer (some ⟨g,pl*3,none⟩),X,by simp[execOp,go_sem,RY.K hk 3 (.pointer (some ⟨g,pl*3,none⟩))],(fun _=>rfl),zR,rfl⟩
     |2,rfl=>
      have hX:=pI (by decide);have e107:a.tmps[107]?.getD undef=.pointer (some ⟨g,pl*3,none⟩):=(RY.ai a 107).trans (hd 1 _ 107 rfl rfl ⟨⟨1,.data⟩,by simp,rfl,rfl⟩ (by decide) (by decide) (by decide));exact No ⟨.pointer (some ⟨g,pl*3,none⟩),X,by simp[execOp,go_sem,e107],(fun _=>rfl),zR,rfl⟩
     |3,rfl=>
      have hX:=pI (by decide);have e108:a.tmps[108]?.getD undef=.pointer (some ⟨g,pl*3,none⟩):=(RY.ai a 108).trans (hd 2 _ 108 rfl rfl ⟨⟨2,.data⟩,by simp,rfl,rfl⟩ (by decide) (by decide) (by decide));exact No ⟨.pointer (some ⟨g,pl*3+2,none⟩),X,by simp[execOp,go_sem,e108],(fun _=>rfl),zR,rfl⟩
     |4,rfl=>
      have hX:=pI (by decide);have zq5:=wP.out.later hX;have zq5l:=zq5.own.lt;have e109:a.tmps[109]?.getD undef=.pointer (some ⟨g,pl*3+2,none⟩):=(RY.ai a 109).trans (hd 3 _ 109 rfl rfl ⟨⟨3,.data⟩,by simp,rfl,rfl⟩ (by decide) (by decide) (by decide));have ypl_:=zL de.out hX.size;have ycl_:X.cell? ⟨g,pl*3+2,none⟩=some (.slice l1 ln lq):=by have q:=aF (aj cU.out de.out hX) 2 _ rfl;simpa using q
      exact No ⟨.slice l1 ln lq,X,by simp[execOp,go_sem,e109,ycl_],(fun _=>rfl),zR,rfl⟩
     |5,rfl=>
      have hX:=pI (by decide);exact No ⟨.int .i64 (pi:Int),X,by simp[execOp,go_sem,RY.K hk 9 (.int .i64 (pi:Int))],(fun _=>rfl),zR,rfl⟩
     |6,rfl=>
      have hX:=pI (by decide);have zq5:=wP.out.later hX;have zq5l:=zq5.own.lt;have v5:a.eval (.tmp 5)=.pointer (some ⟨q5,0,none⟩):=(hk 5 (by kernel_rfl)).trans rfl;exact No ⟨_,X,ak 41 _ rfl q5 0 v5 [.string key,.slice ta m tc] _ zq5.at_ Tryz.underlying41 rfl (by kernel_rfl),(fun _=>rfl),zR,rfl⟩
     |7,rfl=>
      have hX:=pI (by decide);have zq5:=wP.out.later hX;have zq5l:=zq5.own.lt;have e112:a.tmps[112]?.getD undef=.agg #[.string key,.slice ta m tc]:=(RY.ai a 112).trans (hd 6 _ 112 rfl rfl ⟨⟨6,.data⟩,by simp,rfl,rfl⟩ (by decide) (by decide) (by decide));exact No ⟨.slice (some ⟨X.heap.size,0,none⟩) 1 1,X.alloc (.cells #[.string key,.slice ta m tc] 41),by simp[execOp,go_sem,e112],(fun h=>absurd h (by decide)),af zR _,X.heap.size,rfl,Bk X wo.heap.size _ _ hX.size⟩
     |8,ho=>
      exact absurd rfl Ix
     |9,rfl=>
      have e106:a.tmps[106]?.getD undef=.pointer (some ⟨g,pl*3,none⟩):=(RY.ai a 106).trans (hd 0 _ 106 rfl rfl ⟨⟨0,.data⟩,by simp,rfl,rfl⟩ (by decide) (by decide) (by decide));exact No ⟨.pointer (some ⟨g,pl*3,none⟩),X,by simp[execOp,go_sem,e106],(fun _=>rfl),zR,rfl⟩
     |10,rfl=>
      have e115:a.tmps[115]?.getD undef=.pointer (some ⟨g,pl*3,none⟩):=(RY.ai a 115).trans (hd 9 _ 115 rfl rfl ⟨⟨9,.data⟩,by simp,rfl,rfl⟩ (by decide) (by decide) (by decide));exact No ⟨.pointer (some ⟨g,pl*3+2,none⟩),X,by simp[execOp,go_sem,e115],(fun _=>rfl),zR,rfl⟩
     |n+11,ho=>omega
    ·intro a X hX hk hd;have e110:a.tmps[110]?.getD undef=.slice l1 ln lq:=(RY.ai a 110).trans (hd 4 _ 110 rfl rfl ⟨⟨4,.data⟩,by simp,rfl,rfl⟩ (by decide) (by decide));have e111:a.tmps[111]?.getD undef=.int .i64 (pi:Int):=(RY.ai a 111).trans (hd 5 _ 111 rfl rfl ⟨⟨5,.data⟩,by simp,rfl,rfl⟩ (by decide) (by decide));obtain⟨g113,q113,I4⟩:=hd 7 _ 113 rfl rfl ⟨⟨7,.data⟩,by simp,rfl,rfl⟩ (by decide) (by decide);have e113:a.tmps[113]?.getD undef=.slice (some ⟨g113,0,none⟩) 1 1:=(RY.ai a 113).trans q113;refine⟨118,#[.slice l1 ln lq,.int .i64 (pi:Int),.slice (some ⟨g113,0,none⟩) 1 1],by simp[go_sem,e110,e111,e113],(FT (rb+1) X l1 ln lq cl [.string key,.slice ta m tc] 1 (bT AT.out (Frm.bB (S:=fun _=>False) hX) (fun _ _ h=>h)) wo.heap.size (.slice (some ⟨g113,0,none⟩) 1 1) kg.out (by simp[Value.oneCell']) I4 (by decide) (fun gg hg=>JK.out gg hg) pi HPI.out (by have:=kC.out;omega) (Xg mP.out hX.size)).mono ?_⟩;rintro e W' ⟨g',q',rfl,h1,h2,h3⟩;exact⟨_,rfl,g',q',rfl,h1,((Frm.bB hX).trans (h2.frm.mono (fun b ⟨gg,e1,e2⟩=>by rw[e1,e2];rfl))),h3.imp id (fun h=>Xg hX.size h)⟩
    ·intro a X vals LG hk K8 hd;obtain⟨g',q',e1,h1,h2,h3⟩:=LG;have e114:a.eval (.tmp 114)=_:=(hd 8 _ 114 rfl rfl ⟨⟨8,.data⟩,by simp,rfl,rfl⟩ (by decide)).trans e1;have e116:a.eval (.tmp 116)=.pointer (some ⟨g,pl*3+2,none⟩):=(hd 10 _ 116 rfl rfl ⟨⟨10,.data⟩,by simp,rfl,rfl⟩ (by decide)).trans (K8 10 (by decide));have hb:=bT AO.out h2 (fun gg yY e=>iy AO.out AT.out (by decide) yY e);obtain⟨hc,hl,hf⟩:=tF hb (j:=pl*3+2) (by have:=RK.out;omega);have e114':a.tmps[114]?.getD undef=_:=(RY.ai a 114).trans e114;have e116':a.tmps[116]?.getD undef=_:=(RY.ai a 116).trans e116;obtain⟨old,hc⟩:=hc;refine⟨X.setCell ⟨g,pl*3+2,none⟩ (.slice (some ⟨g',0,none⟩) (ln+1) q'),by simp[execOp,go_sem,e114',e116',hc,hf],g',q', ?_, ?_, ?_,h3⟩
     ·have hs:=xZ hb (pl*3+2) (.slice (some ⟨g',0,none⟩) (ln+1) q');rw[yu _ _ _ _ _ _ tw.out]at hs;exact hs
     ·exact bT h1 ((Marks.sc (S:=fun b=>b=g) X rfl (pl*3+2) _).frm (fun _ h=>h)) (fun gg yY e=>iy h1 hb (by decide) yY (by rw[e];rfl))
     ·exact(h2.mono (fun _ h=>Xk h)).trans ((Marks.sc (S:=fun b=>b=g) X rfl (pl*3+2) _).frm (fun _ h=>No h))
    ·intro vs X PJ;simp only[RY.aC,Act.put,so,As,An];generalize vs 106=s106,vs 107=s107,vs 108=s108,vs 109=s109,vs 110=s110,vs 111=s111,vs 112=s112,vs 113=s113,vs 114=s114,vs 115=s115,vs 116=s116;obtain⟨g',q',Jw,qv,k9,th⟩:=PJ;have IG:Hid (l1=some ⟨g',0,none⟩∨w.heap.size≤g'):=th.imp id (fun h=>Xg gW.out.size h);have fS:=uh (Xt Jw (Xt qv k9));clear Jw qv k9 th;go_wp2;go_ret;refine Xk ⟨gE.out,rfl,g',q',fS.out.1,fS.out.2.1,(Frm.bB gW.out).trans fS.out.2.2,IG.out⟩
theorem L7 {α:Type} {lt:α→α→Bool} {cmp:α→α→Int} (T:Tot lt cmp) (d:α) {l:List α} (h:l.Pairwise fun a b=>lt a b=true) (t:α) (p:α→Bool) (hp:∀ y∈l,p y=true↔cmp y t=0):(decide (cS lt l t<l.length)&&decide (cmp (l.getD (cS lt l t) d) t=0))=l.any p:=by
 rw[XB,Xj,decide_eq_true_iff,decide_eq_true_iff,← xt T d h t,List.any_eq_true];exact⟨fun ⟨y,hy,e⟩=>⟨y,hy,(hp y hy).2 e⟩,fun ⟨y,hy,e⟩=>⟨y,hy,(hp y hy).1 e⟩⟩
theorem wY (kind name:ByteArray):∀ (l:List Pl.Bl) (i:Nat),(Pl.findF kind name l i).isSome=l.any (Pl.isB kind name)
 |[],_=>rfl
 |b::l,i=>by
  unfold Pl.findF;rw[List.any_cons];cases Pl.isB kind name b
  ·simpa using wY kind name l (i+1)
  ·rfl
theorem qK (x y:Int):fR x y=0↔(x=0∧y=0):=by
 unfold fR;by_cases h:x=0
 ·rw[if_pos h];simp[h]
 ·rw[if_neg h];simp[h]
theorem KM (kind name:ByteArray) (y:Pl.Bl):Pl.isB kind name y=true↔eE y ⟨kind,name,[]⟩=0:=by
 unfold eE;rw[qK,bG,bG,← Xj];exact Iff.rfl
theorem Hy {A:List Pl.Bl} (h:A.Pairwise fun a b=>Pl.ahead a b=true) (Li:A.length≤60) (ws:List ByteArray) (ag:Bool) (qu:ag=(decide (cS Pl.ahead A ⟨ws.getD 0 Pl.aJ,ws.getD 1 Pl.aJ,[]⟩<A.length)&&decide (eE (A.getD (cS Pl.ahead A ⟨ws.getD 0 Pl.aJ,ws.getD 1 Pl.aJ,[]⟩) Pl.aG) ⟨ws.getD 0 Pl.aJ,ws.getD 1 Pl.aJ,[]⟩=0))):bgC A ws ag=Pl.ed A ws:=by
 rw[L7 uo Pl.aG h _ (Pl.isB (ws.getD 0 Pl.aJ) (ws.getD 1 Pl.aJ)) (fun y _=>KM _ _ y),← wY _ _ A 0]at qu;unfold bgC Pl.ed;rw[qu];have e:(A.length=60)=(60≤A.length):=by rw[eq_iff_iff];omega
 simp only[e];rfl
theorem qM (key:ByteArray):∀ (l:List Pl.Ru) (i k:Nat),Pl.fp key l i=some k→i≤k∧((l.getD (k - i) Pl.bu).key.toList==key.toList)=true
 |[],_,_,h=>by cases h
 |r::l,i,k,h=>by
  unfold Pl.fp at h;split at h
  ·rename_i e
   injection h with h
   subst h;rw[Nat.sub_self];exact⟨zE,e⟩
  ·obtain⟨h1,h2⟩:=qM key l (i+1) k h;refine⟨by omega, ?_⟩;rw[show k - i=(k - (i+1))+1 by omega,List.getD_cons_succ];exact h2
theorem Kq {a b:Option Nat} (h:Pl.ixI a=Pl.ixI b):a=b:=by
 cases a with
 |none=>
  cases b with
  |none=>rfl
  |some n=>exfalso;have q:(-1:Int)=(n:Int):=h;omega
 |some m=>
  cases b with
  |none=>exfalso;have q:(m:Int)=(-1:Int):=h;omega
  |some n=>have q:(m:Int)=(n:Int):=h;rw[show m=n by omega]
theorem MV {l:List Pl.Ru} {a b:ByteArray} (h:Pl.bP l a=Pl.bP l b) (hs:(Pl.bP l b).isSome=true):a=b:=by
 obtain⟨j,hj⟩:=XR.1 hs;have h1:=(qM b l 0 j hj).2;have h2:=(qM a l 0 j (h.trans hj)).2;exact(fv h2).symm.trans (fv h1)
theorem FR {l:List Pl.Ru} (x:Pl.Ln) (hs:(Pl.bP l x.key).isSome=true) (y:Pl.Ln):((y.key.toList==x.key.toList)&&Pl.cL y.ws x.ws)=true↔cQ l y x=0:=by
 unfold cQ;rw[qK,cH,Xj];have hw:Pl.cL y.ws x.ws=true↔db y.ws x.ws=0:=by
  unfold Pl.cL;rw[Xj,Yw,Yw];constructor
  ·rintro⟨h1,h2⟩;by_cases e:db y.ws x.ws=0
   ·exact e
   ·have:=FM.tri _ _ h1 e;rw[h2]at this;cases this
  ·intro e;have e':=(gw _ _).1 e;rw[e'];have hf:Pl.du x.ws x.ws=false:=by
    cases q:Pl.du x.ws x.ws
    ·rfl
    ·have:=(FM.neg _ _).2 q;rw[(gw x.ws x.ws).2 rfl]at this;omega
   exact⟨hf,hf⟩
 rw[hw];constructor
 ·rintro⟨h1,h2⟩;rw[fv h1];exact⟨rfl,h2⟩
 ·rintro⟨h1,h2⟩;refine⟨?_,h2⟩;rw[MV (Kq h1) hs];simp
theorem add_eq {b:Pl.Bl} (h:b.lines.Pairwise fun a c=>Pl.aL b.kind a c=true) (Et:∀ key,Pl.aR b.lines key≤10) (ws:List ByteArray) (ag:Bool) (qu:ag=(decide (cS (Pl.aL b.kind) b.lines (Pl.bt ws)<b.lines.length)&&decide (cQ (Pl.ah b.kind) (b.lines.getD (cS (Pl.aL b.kind) b.lines (Pl.bt ws)) Pl.aK) (Pl.bt ws)=0))):
  adC (Pl.ah b.kind) (Pl.aR b.lines (Pl.bt ws).key) (Pl.bt ws) ag=Pl.bX b ws:=by
 unfold adC Pl.bX;cases lE:Pl.bP (Pl.ah b.kind) (Pl.bt ws).key with
 |none=>rfl
 |some j=>
  have hs:(Pl.bP (Pl.ah b.kind) (Pl.bt ws).key).isSome=true:=by rw[lE];rfl
  rw[L7 (pj b.kind) Pl.aK h _ (fun y=>(y.key.toList==(Pl.bt ws).key.toList)&&Pl.cL y.ws (Pl.bt ws).ws) (fun y _=>FR _ hs y)]at qu;have e1:decide (0<Pl.ja b.lines (Pl.bt ws))=ag:=by
   rw[qu,XB,decide_eq_true_iff];unfold Pl.ja;rw[List.countP_pos_iff,List.any_eq_true]
  have e2:Pl.iB (Pl.ah b.kind) (Pl.bt ws).key=((Pl.ah b.kind).getD j Pl.bu).many:=by unfold Pl.iB;rw[lE]
  have e3:Pl.js (Pl.ah b.kind) (Pl.bt ws).key (Pl.bt ws).ws=Pl.bH b.kind (Pl.bt ws).key (Pl.bt ws).ws:=rfl;have e4:(Pl.aR b.lines (Pl.bt ws).key=10)=(10≤Pl.aR b.lines (Pl.bt ws).key):=by
   rw[eq_iff_iff];have:=Et (Pl.bt ws).key;omega
  simp only[Option.isSome_some,Bool.true_eq_false,if_false,e1,e2,e3,e4]
theorem r9 (st:Pl.PS) (ls:List ByteArray):∀ (n i:Nat),i+n≤ls.length→Pl.blank ls i (i+n)→Pl.parseFrom st (ls.drop i) i=Pl.parseFrom st (ls.drop (i+n)) (i+n)
 |0,_,_,_=>rfl
 |n+1,i,hl,hb=>by
  have h0:=hb i zE (by omega);rw[Pl.oB ls i (by omega),Pl.parseFrom];have e1:Pl.dw st (ls.getD i Pl.aJ)=0:=by unfold Pl.dw;rw[h0];rfl
  have e2:Pl.gL st (ls.getD i Pl.aJ)=st:=by unfold Pl.gL;rw[h0];rfl
  rw[if_pos e1,e2,r9 st ls n (i+1) (by omega) (fun m h1 h2=>hb m (by omega) (by omega)),show i+1+n=i+(n+1) by omega]
theorem KS (st:Pl.PS) (ls:List ByteArray) (j:Nat) (hj:j<ls.length):Pl.parseFrom st (ls.drop j) j=if Pl.dw st (ls.getD j Pl.aJ)=0 then Pl.parseFrom (Pl.gL st (ls.getD j Pl.aJ)) (ls.drop (j+1)) (j+1) else ([],j+1,Pl.dw st (ls.getD j Pl.aJ)):=by
 rw[Pl.oB ls j hj,Pl.parseFrom]
theorem xF {x:ByteArray} (h:Pl.cJ x=true) (st:Pl.PS):Pl.dw st x=1:=by
 unfold Pl.cJ at h;unfold Pl.dw;cases hc:Pl.bo x.data.toList 0 with
 |none=>rfl
 |some ws=>rw[hc]at h;cases h
theorem uX {x:ByteArray} (h:Pl.cJ x=false) (st:Pl.PS):Pl.dw st x=Pl.cY st (Pl.aY x)∧Pl.gL st x=Pl.cn st (Pl.aY x):=by
 unfold Pl.cJ at h;unfold Pl.dw Pl.gL Pl.aY;cases hc:Pl.bo x.data.toList 0 with
 |none=>rw[hc]at h;cases h
 |some ws=>exact⟨rfl,rfl⟩
theorem Kh (kind:ByteArray) (L:List Pl.Ln) (x:Pl.Ln) (key:ByteArray):Pl.aR (Pl.bS kind L x) key=Pl.aR L key+if Pl.eZ x.key key then 1 else 0:=by
 unfold Pl.bS;rw[lj];unfold Pl.aR;rw[YT,List.countP_cons];have e:List.countP (fun x=>Pl.eZ x.key key) L=List.countP (fun x=>Pl.eZ x.key key) (L.take (cS (Pl.aL kind) L x))+List.countP (fun x=>Pl.eZ x.key key) (L.drop (cS (Pl.aL kind) L x)):=by
  rw[← YT,YK]
 rw[e];omega
theorem tY {α:Type} (f:α→List Dt) (sh:List Sh) (hf:∀ x,(f x).length=sh.length) {W:World} {F:List Nat} {l:List α} {cs:List Value} (h:Rep W false (bF l.length sh) F (l.flatMap f) cs) (k:Nat) (hk:k≤l.length):
  ∃ F1 F2,F=F1++F2∧Rep W false (bF k sh) F1 ((l.take k).flatMap f) (cs.take (k*sh.length))∧Rep W false (bF (l.length - k) sh) F2 ((l.drop k).flatMap f) (cs.drop (k*sh.length)):=by
 have e:l.length=k+(l.length - k):=by omega
 rw[e,gH]at h;obtain⟨F1,F2,d1,d2,c1,c2,rfl,hd,rfl,h1,h2⟩:=Rep.cut _ h;have pc:d1.length=((l.take k).flatMap f).length:=by
  rw[h1.raw.typ.len,bU,jx f _ hf,Xo,Nat.min_eq_left hk]
 have UL:(l.take k).flatMap f++(l.drop k).flatMap f=d1++d2:=by rw[← Xv,YK];exact hd
 obtain⟨e1,e2⟩:=List.append_inj UL pc.symm;have hc:c1.length=k*sh.length:=by rw[h1.raw.len,bU]
 refine⟨F1,F2,rfl, ?_, ?_⟩
 ·rw[e1,List.take_left' hc];exact h1
 ·rw[e2,List.drop_left' hc];exact h2
def ClM (rb:Nat) (A:List Pl.Bl) (bv:Value) (W:World):Prop:=
 ∃ cs F,W.ownsRow (rb+1) 58 3 bv A.length cs∧Rep W false (bF A.length aq) F (A.flatMap blD) cs∧F.Nodup∧(∀ b∈F,rb+1≤b)∧∀ g,bv.ownBlock=some g→g ∉ F
def OpM (rb:Nat) (A:List Pl.Bl) (cur:Pl.Bl) (pl g q:Nat) (W:World):Prop:=
 ∃ ca cb l1 lq cl FA FL FB,W.ownsRow (rb+1) 58 3 (.slice (some ⟨g,0,none⟩) (A.length+1) q) (A.length+1) (ca++[.string cur.kind,.string cur.name,.slice l1 cur.lines.length lq]++cb)∧ca.length=pl*3∧
  W.ownsRow (rb+1) 41 2 (.slice l1 cur.lines.length lq) cur.lines.length cl∧Rep W false (bF pl aq) FA ((A.take pl).flatMap blD) ca∧Rep W false (bF cur.lines.length ao) FL (cur.lines.flatMap lnD) cl∧Rep W false (bF (A.length - pl) aq) FB ((A.drop pl).flatMap blD) cb∧
  (FA++(FL++FB)).Nodup∧∀ b∈FA++(FL++FB),rb+1≤b∧b≠g∧(Value.slice l1 cur.lines.length lq).ownBlock≠some b
theorem ClM.frm {rb:Nat} {A:List Pl.Bl} {bv:Value} {W W':World} (h:ClM rb A bv W) (k:Frm (fun b=>b=rb) W W'):ClM rb A bv W':=by
 obtain⟨cs,F,h1,h2,h3,h4,h5⟩:=h;refine⟨cs,F,bT h1 k fun g hg e=> ?_,h2.frm k fun b hb e=> ?_,h3,h4,h5⟩
 ·have:=(cC h1 hg).1;omega
 ·have:=h4 b hb;omega
theorem OpM.frm {rb:Nat} {A:List Pl.Bl} {cur:Pl.Bl} {pl g q:Nat} {W W':World} (h:OpM rb A cur pl g q W) (k:Frm (fun b=>b=rb) W W'):OpM rb A cur pl g q W':=by
 obtain⟨ca,cb,l1,lq,cl,FA,FL,FB,h1,h2,h3,h4,h5,h6,h7,h8⟩:=h;refine⟨ca,cb,l1,lq,cl,FA,FL,FB,bT h1 k fun g hg e=> ?_,h2,bT h3 k fun g hg e=> ?_,h4.frm k fun b hb e=> ?_,h5.frm k fun b hb e=> ?_,h6.frm k fun b hb e=> ?_,h7,h8⟩
 ·have:=(cC h1 hg).1;omega
 ·have:=(cC h3 hg).1;omega
 ·have:=(h8 b (by simp[hb])).1;omega
 ·have:=(h8 b (by simp[hb])).1;omega
 ·have:=(h8 b (by simp[hb])).1;omega
theorem E3 {rb:Nat} {A:List Pl.Bl} {p1:Option Addr} {q:Nat} {cs:List Value} {F:List Nat} {W W':World} {k n:ByteArray} {pl g' q':Nat}
  (gC:Rep W false (bF A.length aq) F (A.flatMap blD) cs) (l5:F.Nodup) (cX:∀ b∈F,rb+1≤b) (hg:∀ g,(Value.slice p1 A.length q).ownBlock=some g→g ∉ F) (eH:pl≤A.length)
  (KT:W'.ownsRow (rb+1) 58 3 (.slice (some ⟨g',0,none⟩) (A.length+1) q') (A.length+1) (cs.take (pl*3)++[.string k,.string n,.slice none 0 0]++cs.drop (pl*3)))
  (hf:Frm (fun b=>b=rb∨(Value.slice p1 A.length q).ownBlock=some b) W W') (yX:p1=some ⟨g',0,none⟩∨W.heap.size≤g'):OpM rb A ⟨k,n,[]⟩ pl g' q' W':=by
 have yI:cs.length=A.length*3:=by rw[gC.raw.len,bU];rfl
 have SX:Rep W' false (bF A.length aq) F (A.flatMap blD) cs:=gC.frm hf fun b hb e=>by
  rcases e with e|e
  ·have:=cX b hb;omega
  ·exact hg b e hb
 have hgF:∀ b∈F,b≠g':=fun b hb e=>by
  subst e;rcases yX with e|e
  ·exact hg b (by rw[e];rfl) hb
  ·have:=gC.lt b hb;omega
 obtain⟨F1,F2,rfl,r1,r2⟩:=tY blD aq (fun _=>rfl) SX pl eH;refine⟨_,_,none,0,[],F1,[],F2,KT, ?_,⟨rfl,.inl ⟨rfl,rfl⟩⟩,r1,.nil,r2,by simpa using l5,fun b hb=>⟨cX b (by simpa using hb),hgF b (by simpa using hb),by intro e;cases e⟩⟩;rw[Xo];have:pl*3≤A.length*3:=XJ 3 eH;omega
theorem MU {rb:Nat} {A:List Pl.Bl} {cur:Pl.Bl} {pl g q:Nat} {W:World} (h:OpM rb A cur pl g q W) (eH:pl≤A.length) (hlen:cur.lines.length≤maxLen):ClM rb (A.take pl++cur::A.drop pl) (.slice (some ⟨g,0,none⟩) (A.length+1) q) W:=by
 obtain⟨ca,cb,l1,lq,cl,FA,FL,FB,h1,h2,h3,h4,h5,h6,h7,h8⟩:=h;have W0:FL.Nodup:=(XY.1 (XY.1 h7).2.1).1;obtain⟨G,r,n1,n2,n3⟩:=tH (sh:=ao) h3 h5 (fun e=>by rw[Xs e];rfl) hlen W0 (fun b hb=>(h8 b (by simp[hb])).1) (fun b e hb=>(h8 b (by simp[hb])).2.2 e);have hG:∀ b∈G,rb+1≤b∧b≠g∧b ∉ FA∧b ∉ FB:=fun b hb=>by
  rcases n3 b hb with e|e
  ·obtain⟨i1,i2,i3⟩:=XY.1 h7;obtain⟨j1,j2,j3⟩:=XY.1 i2;exact⟨n2 b hb,(h8 b (by simp[e])).2.1,fun q=>i3 b q b (by simp[e]) rfl,fun q=>j3 b e b q rfl⟩
  ·exact⟨n2 b hb,fun q=>iy h1 h3 (by decide) (g:=g) rfl (by rw[← q];exact e),fun q=>(h8 b (by simp[q])).2.2 e,fun q=>(h8 b (by simp[q])).2.2 e⟩
 have uQ:(A.take pl++cur::A.drop pl).length=A.length+1:=by
  rw[At,Xm,Xo,Xy];omega
 have hb:=cT cur.kind cur.name r;have bA:=h4.app (hb.app h6);have I6:bF (A.length+1) aq=bF pl aq++(aq++bF (A.length - pl) aq):=by
  rw[← dk,← gH];congr 1;omega
 refine⟨_,FA++(G++[]++FB),by rw[uQ];exact h1, ?_, ?_, ?_, ?_⟩
 ·rw[uQ,I6,Xv,XP,XG ca];exact bA
 ·rw[Xl];obtain⟨i1,i2,i3⟩:=XY.1 h7;obtain⟨j1,j2,j3⟩:=XY.1 i2;refine XY.2 ⟨i1,XY.2 ⟨n1,j2,fun a ha b hb e=>(hG a ha).2.2.2 (e ▸ hb)⟩,fun a ha b hb e=> ?_⟩;rcases XC.1 hb with q|q
  ·exact(hG b q).2.2.1 (e ▸ ha)
  ·exact i3 a ha b (by simp[q]) e
 ·intro b hb;rw[Xl]at hb;rcases XC.1 hb with q|q
  ·exact(h8 b (by simp[q])).1
  ·rcases XC.1 q with q|q
   ·exact(hG b q).1
   ·exact(h8 b (by simp[q])).1
 ·intro b hb hq;injection hb with hb
  have gY:g=b:=hb;subst gY;rw[Xl]at hq;rcases XC.1 hq with q|q
  ·exact(h8 _ (by simp[q])).2.1 rfl
  ·rcases XC.1 q with q|q
   ·exact(hG _ q).2.1 rfl
   ·exact(h8 _ (by simp[q])).2.1 rfl
theorem Gx {w:World} {ws:List ByteArray} {p o c m:Nat} {F:List Nat} (h:Rep w false bm F [.row ws.length (txD ws)] [.slice (some ⟨p,o,none⟩) (m+1) c]) (hm:ws.length=m+1):
  ∃ F',Rep w false bm F' [.row m (txD (ws.drop 1))] [.slice (if c=1 then some ⟨p,o,none⟩ else some ⟨p,o+1,none⟩) m (c - 1)]∧(F.Nodup→F'.Nodup)∧∀ b∈F',b∈F:=by
 obtain⟨x,l,rfl⟩:∃ x l,ws=x::l:=by
  cases ws with
  |nil=>simp at hm
  |cons x l=>exact⟨x,l,rfl⟩
 have hl:l.length=m:=by simpa using hm
 rw[hm]at h;unfold bm at h ⊢;cases h with
 |row _ _ _ _ _ _ u mm vs es G ho hmm ht hn hr he h'=>
  cases h'
  rw[dk]at he;cases he with
  |s _ U2=>
   by_cases hc:c=1
   ·have lG:m=0:=by omega
    have wL:l=[]:=Xs (by omega);subst wL;subst lG;subst hc;exact⟨[],.emp _ _ _ rfl .nil,fun _=>XL,fun b hb=>by cases hb⟩
   ·rw[if_neg hc];rename_i cs2
    have k4:w.rangeAt p (o+1) cs2:=(gU (x:=[.string x]) (y:=cs2) hr).2;refine⟨p::(G++[]),.row _ _ p (o+1) m (c - 1) u mm cs2 (txD l) G ho ?_ (by simp) ⟨by omega,by omega⟩ k4 U2 .nil,id,fun b hb=>hb⟩;simp only[XN,Nat.mul_one]at hmm ⊢;omega
theorem M7 {rb:Nat} {A:List Pl.Bl} {kind name:ByteArray} {L:List Pl.Ln} {pl g q:Nat} {ca cb:List Value} {l1:Option Addr} {lq:Nat} {cl:List Value} {FA FL FB:List Nat} {W W':World} {x:Pl.Ln} {ta:Option Addr} {tc pi g' q':Nat} {FW:List Nat} {N:Nat}
  (hca:ca.length=pl*3) (hA:Rep W false (bF pl aq) FA ((A.take pl).flatMap blD) ca) (hL:Rep W false (bF L.length ao) FL (L.flatMap lnD) cl) (hB:Rep W false (bF (A.length - pl) aq) FB ((A.drop pl).flatMap blD) cb)
  (l5:(FA++(FL++FB)).Nodup) (cX:∀ b∈FA++(FL++FB),rb+1≤b∧b≠g∧(Value.slice l1 L.length lq).ownBlock≠some b) (hpi:pi≤L.length)
  (hw:Rep W false bm FW [.row x.ws.length (txD x.ws)] [.slice ta x.ws.length tc]) (zg:FW.Nodup) (hwN:∀ b∈FW,N≤b) (hN:∀ b∈FA++(FL++FB),b<N) (hgN:g<N) (TO:∀ b,(Value.slice l1 L.length lq).ownBlock=some b→b<N) (hrN:rb<N)
  (KT:W'.ownsRow (rb+1) 58 3 (.slice (some ⟨g,0,none⟩) (A.length+1) q) (A.length+1) (ca++[.string kind,.string name,.slice (some ⟨g',0,none⟩) (L.length+1) q']++cb))
  (hl':W'.ownsRow (rb+1) 41 2 (.slice (some ⟨g',0,none⟩) (L.length+1) q') (L.length+1) (cl.take (pi*2)++[.string x.key,.slice ta x.ws.length tc]++cl.drop (pi*2)))
  (hf:Frm (fun b=>b=g∨(Value.slice l1 L.length lq).ownBlock=some b) W W') (yX:l1=some ⟨g',0,none⟩∨W.heap.size≤g'):
  OpM rb A ⟨kind,name,L.take pi++x::L.drop pi⟩ pl g q W':=by
 have hk:∀ b∈FA++(FL++FB),¬ (b=g∨(Value.slice l1 L.length lq).ownBlock=some b):=fun b hb e=>by
  rcases e with e|e
  ·exact(cX b hb).2.1 e
  ·exact(cX b hb).2.2 e
 have hkw:∀ b∈FW,¬ (b=g∨(Value.slice l1 L.length lq).ownBlock=some b):=fun b hb e=>by
  have:=hwN b hb;rcases e with e|e
  ·omega
  ·have:=TO b e;omega
 have OC:∀ b∈FA++(FL++FB),b<W.heap.size:=fun b hb=>by
  rcases XC.1 hb with e|e
  ·exact hA.lt b e
  ·rcases XC.1 e with e|e
   ·exact hL.lt b e
   ·exact hB.lt b e
 have hgA:∀ b∈FA++(FL++FB),b≠g':=fun b hb e=>by
  subst e;rcases yX with e|e
  ·exact(cX b hb).2.2 (by rw[e];rfl)
  ·have:=OC b hb;omega
 have hgW:∀ b∈FW,b≠g':=fun b hb e=>by
  subst e;rcases yX with e|e
  ·have h1:=TO b (by rw[e];rfl);have h2:=hwN b hb;omega
  ·have:=hw.lt b hb;omega
 have hA':=hA.frm hf fun b hb=>hk b (by simp[hb]);have hB':=hB.frm hf fun b hb=>hk b (by simp[hb]);have hL':=hL.frm hf fun b hb=>hk b (by simp[hb]);have hw':=hw.frm hf hkw;obtain⟨F1,F2,rfl,r1,r2⟩:=tY lnD ao (fun _=>rfl) hL' pi hpi;have uQ:(L.take pi++x::L.drop pi).length=L.length+1:=by
  rw[At,Xm,Xo,Xy];omega
 have hb:=fE x.key hw';have bA:=r1.app (hb.app r2);have I6:bF (L.length+1) ao=bF pi ao++(ao++bF (L.length - pi) ao):=by
  rw[← dk,← gH];congr 1;omega
 have WT:∀ b,b∈FA++((F1++(FW++[]++F2))++FB)→b∈FA++(F1++F2++FB)∨b∈FW:=fun b hb=>by
  simp only[XC,Xl]at hb ⊢;rcases hb with h|(h|h|h)|h
  ·exact .inl (.inl h)
  ·exact .inl (.inr (.inl (.inl h)))
  ·exact .inr h
  ·exact .inl (.inr (.inl (.inr h)))
  ·exact .inl (.inr (.inr h))
 refine⟨ca,cb,some ⟨g',0,none⟩,q',_,FA,F1++(FW++[]++F2),FB,by rw[uQ];exact KT,hca,by rw[uQ];exact hl',hA', ?_,hB', ?_,fun b hb=> ?_⟩
 ·simp only[uQ];rw[I6,Xv,XP,XG (List.take (pi*2) cl)];exact bA
 ·have hd:∀ a∈FW,∀ b∈FA++(F1++F2++FB),a≠b:=fun a ha b hb e=>by
   have:=hwN a ha;have:=hN b hb;omega
  simp only[Xl,XY,XC]at l5 hd ⊢;obtain⟨n1,⟨⟨n2,n3,n4⟩,n5,n6⟩,n7⟩:=l5;refine⟨n1,⟨⟨n2,⟨zg,n3,fun a ha b hb=>hd a ha b (.inr (.inl (.inr hb)))⟩,fun a ha b hb=> ?_⟩,n5,fun a ha b hb=> ?_⟩,fun a ha b hb=> ?_⟩
  ·rcases hb with h|h
   ·exact fun e=>hd b h a (.inr (.inl (.inl ha))) e.symm
   ·exact n4 a ha b h
  ·rcases ha with h|h|h
   ·exact n6 a (.inl h) b hb
   ·exact hd a h b (.inr (.inr hb))
   ·exact n6 a (.inr h) b hb
  ·rcases hb with(h|h|h)|h
   ·exact n7 a ha b (.inl (.inl h))
   ·exact fun e=>hd b h a (.inl ha) e.symm
   ·exact n7 a ha b (.inl (.inr h))
   ·exact n7 a ha b (.inr h)
 ·rcases WT b hb with h|h
  ·exact⟨(cX b h).1,(cX b h).2.1,fun e=>hgA b h (by injection e with e;exact e.symm)⟩
  ·have h1:=hwN b h;exact⟨by omega,by omega,fun e=>hgW b h (by injection e with e;exact e.symm)⟩
theorem EG (rb:Nat) (at_:Int) (mv lv cw bv ov:Value) (w:World) (fB:aA w rb 124 [mv,lv,.int .i64 at_,cw,.bool true,bv,ov]) (hcw:∃ a n c,cw=.slice a n c):
  Calls Tryz.prog 85 #[.pointer (some ⟨rb,0,none⟩)] w fun e w'=>e=.returned (.iface 100 (.agg #[.int .i64 at_,.int .i64 1]))∧w=w':=by
 obtain⟨a,n,c,rfl⟩:=hcw;have c3:=fB.get 3 _ rfl;have c4:=fB.get 4 _ rfl;have cl:=fB.own.lt;have AJ:=uh (vJ rb at_ 1 w (fB.get 2 _ rfl) cl);clear fB;go_enter Tryz.func85,Tryz.ntmps85
 go_wp2_with (go_at_call 113;refine AJ.out.mono ?_;rintro e w' ⟨rfl,rfl⟩)
 go_ret;exact⟨rfl,rfl⟩
theorem NA (rb:Nat) (at_:Int) (mv lv cw bv ov:Value) (w:World) (fB:aA w rb 124 [mv,lv,.int .i64 at_,cw,.bool true,bv,ov]):
  Calls Tryz.prog 87 #[.pointer (some ⟨rb,0,none⟩)] w fun e w'=>e=.returned (.iface 100 (.agg #[.int .i64 at_,.int .i64 1]))∧w=w':=by
 have c4:=fB.get 4 _ rfl;have cl:=fB.own.lt;have AJ:=uh (vJ rb at_ 1 w (fB.get 2 _ rfl) cl);clear fB;go_enter Tryz.func87,Tryz.ntmps87
 go_wp2_with (go_at_call 113;refine AJ.out.mono ?_;rintro e w' ⟨rfl,rfl⟩)
 go_ret;exact⟨rfl,rfl⟩
structure RdC (rb mb:Nat) (la:Option Addr) (lc:Nat) (ls:List ByteArray) (vt vb vs:Value) (w0:World):Prop where
 lines:Raw w0 bm [.row ls.length (txD ls)] [.slice la ls.length lc]
 mp:w0.heap[mb]? =some (.map #[⟨.string {data:=#[116,101,97,109]},.agg #[vt],0⟩,⟨.string {data:=#[98,101,114,116,104]},.agg #[vb],1⟩,⟨.string {data:=#[115,101,114,118,105,99,101]},.agg #[vs],2⟩] 3)
 kinds:∀ kind,∃ ra rc,iT kind vt vb vs=.slice ra (Pl.ah kind).length rc∧Raw w0 [.row 75 aB] [bV (Pl.ah kind)] [.slice ra (Pl.ah kind).length rc]
 lo:w0.heap.size≤rb
 len:ls.length≤400
 sz:∀ x∈ls,x.size≤1048576
theorem RdC.map {rb mb:Nat} {la:Option Addr} {lc:Nat} {ls:List ByteArray} {vt vb vs:Value} {w0 w:World} (h:RdC rb mb la lc ls vt vb vs w0) (hb:Bel w0 w):w.heap[mb]? =some (.map #[⟨.string {data:=#[116,101,97,109]},.agg #[vt],0⟩,⟨.string {data:=#[98,101,114,116,104]},.agg #[vb],1⟩,⟨.string {data:=#[115,101,114,118,105,99,101]},.agg #[vs],2⟩] 3):=
 (hb.block mb (eP h.mp)).trans h.mp
def atB (A:List Pl.Bl) (cur:Pl.Bl):Nat:=cS Pl.ahead A ⟨cur.kind,cur.name,[]⟩
def SO (rb mb:Nat) (la:Option Addr) (lc:Nat) (ls:List ByteArray) (k:Nat) (A:List Pl.Bl) (cur:Pl.Bl) (W:World):Prop:=
 ∃ cw cb g q,aA W rb 124 [.map (some mb),.slice la ls.length lc,.int .i64 (k:Nat),cw,.bool cb,.slice (some ⟨g,0,none⟩) (A.length+1) q,.int .i64 (atB A cur:Nat)]∧OpM rb A cur (atB A cur) g q W
structure OpP (k:Nat) (A:List Pl.Bl) (cur:Pl.Bl):Prop where
 pw:A.Pairwise fun a b=>Pl.ahead a b=true
 lt:A.length<60
 new:¬ (atB A cur<A.length∧eE (A.getD (atB A cur) Pl.aG) ⟨cur.kind,cur.name,[]⟩=0)
 lw:cur.lines.Pairwise fun a c=>Pl.aL cur.kind a c=true
 cnt:∀ key,Pl.aR cur.lines key≤10
 ln:cur.lines.length≤k
theorem pE (x:ByteArray):∀ y∈Pl.aY x,y.size≤maxLen:=by
 unfold Pl.aY;cases hc:Pl.bo x.data.toList 0 with
 |none=>intro y hy;cases hy
 |some ws=>
  intro y hy;have:=Pl.lB _ _ _ zE ws hc y hy;unfold maxLen;omega
theorem N3 {rb mb:Nat} {la:Option Addr} {lc:Nat} {ls:List ByteArray} {vt vb vs:Value} {w0:World} (C:RdC rb mb la lc ls vt vb vs w0) (x:ByteArray) (k:Nat) (a:Option Addr) (c:Nat) (F:List Nat) (A:List Pl.Bl) (bv:Value) (op:Int) (cur:Pl.Bl) (w:World)
  (fB:aA w rb 124 [.map (some mb),.slice la ls.length lc,.int .i64 (k:Nat),.slice a (Pl.aY x).length c,.bool (Pl.cJ x),bv,.int .i64 op]) (hw:Rep w false bm F [.row (Pl.aY x).length (txD (Pl.aY x))] [.slice a (Pl.aY x).length c]) (dr:Pl.cJ x=true∨(Pl.aY x).length≠0)
  (fT:ClM rb A bv w) (hb:Bel w0 w) (hP:A.Pairwise fun a b=>Pl.ahead a b=true) (Li:A.length≤60):
  Calls Tryz.prog 85 #[.pointer (some ⟨rb,0,none⟩)] w fun e w'=>
   (Pl.dw ⟨A,cur,false⟩ x≠0∧e=.returned (.iface 100 (.agg #[.int .i64 (k:Nat),.int .i64 (Pl.dw ⟨A,cur,false⟩ x:Nat)]))∧Bel w w')∨
   (Pl.dw ⟨A,cur,false⟩ x=0∧e=.returned .nilIface∧∃ cur',Pl.gL ⟨A,cur,false⟩ x=⟨A,cur',true⟩∧OpP k A cur'∧SO rb mb la lc ls k A cur' w'∧Bel w0 w'):=by
 cases mS:Pl.cJ x with
 |true=>
  rw[mS]at fB;refine(EG rb k _ _ _ bv _ w fB ⟨_,_,_,rfl⟩).mono ?_;rintro e w' ⟨rfl,rfl⟩;rw[xF mS];exact No ⟨by decide,rfl,zR⟩
 |false=>
  rw[mS]at fB;have zg:(Pl.aY x).length≠0:=by
   rcases dr with h|h
   ·rw[mS]at h;cases h
   ·exact h
  obtain⟨Oy,Wn⟩:=uX mS ⟨A,cur,false⟩;have e1:Pl.cY ⟨A,cur,false⟩ (Pl.aY x)=Pl.ed A (Pl.aY x):=by
   unfold Pl.cY Pl.gq;rw[if_neg zg];rfl
  have e2:Pl.cn ⟨A,cur,false⟩ (Pl.aY x)=⟨A,Pl.dZ A (Pl.aY x),true⟩:=by
   unfold Pl.cn Pl.gq;rw[if_neg zg];rfl
  rw[Oy,Wn,e1,e2];have AW:=pE x;generalize Pl.aY x=ws at fB hw AW;obtain⟨cs,FB,dN,gC,l5,cX,hg⟩:=fT;obtain⟨p1,q,rfl⟩:=Kd dN;obtain⟨t,ht⟩:∃ t,t=(⟨ws.getD 0 Pl.aJ,ws.getD 1 Pl.aJ,[]⟩:Pl.Bl):=⟨_,rfl⟩
  obtain⟨ag,qu⟩:∃ ag,ag=(decide (cS Pl.ahead A ⟨ws.getD 0 Pl.aJ,ws.getD 1 Pl.aJ,[]⟩<A.length)&&decide (eE (A.getD (cS Pl.ahead A ⟨ws.getD 0 Pl.aJ,ws.getD 1 Pl.aJ,[]⟩) Pl.aG) ⟨ws.getD 0 Pl.aJ,ws.getD 1 Pl.aJ,[]⟩=0)):=⟨_,rfl⟩
  have LB:∀ kind,∃ ra rn rc,iT kind vt vb vs=.slice ra rn rc:=fun kind=>by
   obtain⟨ra,rc,e,_⟩:=C.kinds kind;exact⟨ra,_,rc,e⟩
  have hc:=NU rb mb _ k op a c ws A p1 q cs FB vt vb vs w fB hw.raw AW dN gC Li (C.map hb) LB (cS Pl.ahead A ⟨ws.getD 0 Pl.aJ,ws.getD 1 Pl.aJ,[]⟩) (ug _ _ _) (qb uo Pl.aG A _) (vA uo Pl.aG hP _) ag qu;have he:=Hy hP Li ws ag qu;rw[he]at hc;refine hc.mono ?_;rintro e w' (⟨h1,h2,h3⟩|⟨h1,h2,g',q',h3,h4,h5,h6⟩)
  ·exact No ⟨h1,h2,h3⟩
  ·have MD:Pl.dZ A ws=⟨ws.getD 0 Pl.aJ,ws.getD 1 Pl.aJ,[]⟩:=by unfold Pl.dZ;rw[if_pos h1]
   have Oz:ag=false:=by
    rw[← he]at h1;cases hq:ag with
    |false=>rfl
    |true=>
     exfalso;unfold bgC at h1;rw[hq]at h1;simp only[if_true]at h1;repeat' split at h1
     all_goals cases h1
   have bq:A.length<60:=by
    rw[← he]at h1;rcases YB A.length 60 with q|q
    ·exact q
    ·exfalso;have e60:A.length=60:=by omega
     unfold bgC at h1;rw[if_pos e60]at h1;repeat' split at h1
     all_goals cases h1
   refine Xk ⟨h1,h2,⟨ws.getD 0 Pl.aJ,ws.getD 1 Pl.aJ,[]⟩,by rw[MD],⟨hP,bq, ?_,List.Pairwise.nil,fun _=>zN,zN⟩,⟨_,_,g',q',h3,E3 gC l5 cX hg (ug _ _ _) h4 h5 h6⟩, ?_⟩
   ·intro hq;rw[Oz]at qu;have:(decide (cS Pl.ahead A ⟨ws.getD 0 Pl.aJ,ws.getD 1 Pl.aJ,[]⟩<A.length)&&decide (eE (A.getD (cS Pl.ahead A ⟨ws.getD 0 Pl.aJ,ws.getD 1 Pl.aJ,[]⟩) Pl.aG) ⟨ws.getD 0 Pl.aJ,ws.getD 1 Pl.aJ,[]⟩=0))=true:=by
     rw[Xj,decide_eq_true_eq,decide_eq_true_eq];exact hq
    rw[this]at qu;cases qu
   ·refine h5.below (fun b hq=> ?_) hb;rcases hq with rfl|hq
    ·exact C.lo
    ·have:=(cC dN hq).1;have:=C.lo;omega
theorem T7 {rb mb:Nat} {la:Option Addr} {lc:Nat} {ls:List ByteArray} {vt vb vs:Value} {w0:World} (C:RdC rb mb la lc ls vt vb vs w0) (x:ByteArray) (k0 k:Nat) (a:Option Addr) (c:Nat) (F:List Nat) (A:List Pl.Bl) (g q:Nat) (cur:Pl.Bl) (wp w:World)
  (fB:aA w rb 124 [.map (some mb),.slice la ls.length lc,.int .i64 (k:Nat),.slice a (Pl.aY x).length c,.bool (Pl.cJ x),.slice (some ⟨g,0,none⟩) (A.length+1) q,.int .i64 (atB A cur:Nat)]) (hw:Rep w false bm F [.row (Pl.aY x).length (txD (Pl.aY x))] [.slice a (Pl.aY x).length c]) (zg:F.Nodup) (hF:∀ b∈F,wp.heap.size≤b) (dr:Pl.cJ x=true∨(Pl.aY x).length≠0)
  (hend:(decide ((Pl.aY x).length=1)&&(((Pl.aY x).getD 0 Pl.aJ).toList==[101,110,100]))=false) (ij:OpM rb A cur (atB A cur) g q wp) (pJ:Frm (fun b=>b=rb) wp w) (hb:Bel w0 w) (hP:OpP k0 A cur) (hk:k0<k) (hk4:k≤400):
  Calls Tryz.prog 87 #[.pointer (some ⟨rb,0,none⟩)] w fun e w'=>
   (Pl.dw ⟨A,cur,true⟩ x≠0∧e=.returned (.iface 100 (.agg #[.int .i64 (k:Nat),.int .i64 (Pl.dw ⟨A,cur,true⟩ x:Nat)]))∧Bel w w')∨
   (Pl.dw ⟨A,cur,true⟩ x=0∧e=.returned .nilIface∧∃ cur',Pl.gL ⟨A,cur,true⟩ x=⟨A,cur',true⟩∧OpP k A cur'∧SO rb mb la lc ls k A cur' w'∧Bel w0 w'):=by
 cases mS:Pl.cJ x with
 |true=>
  rw[mS]at fB;refine(NA rb k _ _ _ _ _ w fB).mono ?_;rintro e w' ⟨rfl,rfl⟩;rw[xF mS];exact No ⟨by decide,rfl,zR⟩
 |false=>
  rw[mS]at fB;have JC:(Pl.aY x).length≠0:=by
   rcases dr with h|h
   ·rw[mS]at h;cases h
   ·exact h
  obtain⟨Oy,Wn⟩:=uX mS ⟨A,cur,true⟩;have Tg:Pl.gq ⟨A,cur,true⟩ (Pl.aY x)=false:=by unfold Pl.gq;rw[hend];rfl
  have e1:Pl.cY ⟨A,cur,true⟩ (Pl.aY x)=Pl.bX cur (Pl.aY x):=by
   unfold Pl.cY;rw[if_neg JC,Tg];rfl
  have e2:Pl.cn ⟨A,cur,true⟩ (Pl.aY x)=⟨A,Pl.bK cur (Pl.aY x),true⟩:=by
   unfold Pl.cn;rw[if_neg JC,Tg];rfl
  rw[Oy,Wn,e1,e2];have AW:=pE x;generalize Pl.aY x=ws at fB hw AW JC;obtain⟨kind,name,L⟩:=cur;obtain⟨ca,cb,l1,lq,cl,FA,FL,FB,o1,o2,o3,o4,o5,o6,o7,o8⟩:=ij;simp only at o1 o3 o5 o8;have OC:∀ b∈FA++(FL++FB),b<wp.heap.size:=fun b hb=>by
   rcases XC.1 hb with e|e
   ·exact o4.lt b e
   ·rcases XC.1 e with e|e
    ·exact o5.lt b e
    ·exact o6.lt b e
  have gh:=cC o1 (g:=g) rfl;have hgN:g<wp.heap.size:=by
   obtain⟨_,cu,h⟩:=gh;exact eP h
  have TO:∀ b,(Value.slice l1 L.length lq).ownBlock=some b→b<wp.heap.size:=fun b e=>by
   obtain⟨_,cu,h⟩:=cC o3 e;exact eP h
  have pc:∀ b,(Value.slice l1 L.length lq).ownBlock=some b→rb+1≤b:=fun b e=>(cC o3 e).1;have o1':=bT o1 pJ fun b e q=>by
   have:=(cC o1 e).1;omega
  have o3':=bT o3 pJ fun b e q=>by
   have:=(cC o3 e).1;omega
  have o4':=o4.frm pJ fun b e q=>by
   have:=(o8 b (by simp[e])).1;omega
  have o5':=o5.frm pJ fun b e q=>by
   have:=(o8 b (by simp[e])).1;omega
  have o6':=o6.frm pJ fun b e q=>by
   have:=(o8 b (by simp[e])).1;omega
  obtain⟨m,hm⟩:∃ m,ws.length=m+1:=⟨ws.length - 1,by omega⟩
  rcases dK hw.raw with⟨e0,_⟩|⟨p,o,c',hv,_,_,_⟩
  ·omega
  injection hv with v1 _ v3
  subst v1;subst v3;rw[hm]at fB;obtain⟨F',Ie,OI,hff⟩:=Gx (by rw[hm]at hw ⊢;exact hw) hm;obtain⟨ra,rc,LB,D7⟩:=C.kinds kind;have uI:∀ W,Bel w W→(Instr.lookup 121 (.map (some mb)) (.string kind) false).run Tryz.prog W=.ok (.agg #[.slice ra (Pl.ah kind).length rc]) W:=fun W hW=>by
   rw[← LB];have lO:=C.map hb;exact oT ((hW.block mb (eP lO)).trans lO) kind
  obtain⟨ag,qu⟩:∃ ag,ag=(decide (cS (Pl.aL kind) L (Pl.bt ws)<L.length)&&decide (cQ (Pl.ah kind) (L.getD (cS (Pl.aL kind) L (Pl.bt ws)) Pl.aK) (Pl.bt ws)=0)):=⟨_,rfl⟩
  have hLk:L.length≤k0:=hP.ln;have hlt60:=hP.lt;have hc:=Ua rb mb _ k p o m c ws g (A.length+1) q (atB A ⟨kind,name,L⟩) ca cb kind name l1 L.length lq L cl FL (Pl.ah kind) ra rc w0 w fB hm (by rw[hm]at hw;exact hw.raw) AW o1' o2 (by have:atB A ⟨kind,name,L⟩≤A.length:=ug _ _ _;omega) (by omega) o3' rfl o5' (by omega) hb uI D7 (Pl.ey kind) (Pl.rq kind) (cS (Pl.aL kind) L (Pl.bt ws)) (ug _ _ _) (qb (pj kind) Pl.aK L _) (vA (pj kind) Pl.aK hP.lw _) ag qu _ _ rfl rfl Ie.raw;have he:adC (Pl.ah kind) (Pl.aR L (Pl.bt ws).key) (Pl.bt ws) ag=Pl.bX ⟨kind,name,L⟩ ws:=add_eq (b:=⟨kind,name,L⟩) hP.lw hP.cnt ws ag qu;rw[he]at hc;refine hc.mono ?_;rintro e w' (⟨h1,h2,h3⟩|⟨h1,h2,g',q',h3,h4,h5,h6⟩)
  ·exact No ⟨h1,h2,h3⟩
  ·have hiB:Pl.bK ⟨kind,name,L⟩ ws=⟨kind,name,Pl.bS kind L (Pl.bt ws)⟩:=by unfold Pl.bK;rw[if_pos h1]
   have LI:Pl.bS kind L (Pl.bt ws)=L.take (cS (Pl.aL kind) L (Pl.bt ws))++Pl.bt ws::L.drop (cS (Pl.aL kind) L (Pl.bt ws)):=lj _ _ _;have tk:=h1;rw[← he]at tk;have Oz:ag=false:=by
    cases hq:ag with
    |false=>rfl
    |true=>
     exfalso;unfold adC at tk;rw[hq]at tk;simp only[Bool.true_or,if_true]at tk;repeat' split at tk
     all_goals cases tk
   have Et:Pl.aR L (Pl.bt ws).key≠10:=fun q=>by
    unfold adC at tk;rw[if_pos q]at tk;repeat' split at tk
    all_goals cases tk
   have mN:(Pl.bt ws).ws.length=m:=by
    show (ws.drop 1).length=m;rw[Xy];omega
   have th:¬ (cS (Pl.aL kind) L (Pl.bt ws)<L.length∧cQ (Pl.ah kind) (L.getD (cS (Pl.aL kind) L (Pl.bt ws)) Pl.aK) (Pl.bt ws)=0):=fun hq=>by
    rw[Oz]at qu;have:(decide (cS (Pl.aL kind) L (Pl.bt ws)<L.length)&&decide (cQ (Pl.ah kind) (L.getD (cS (Pl.aL kind) L (Pl.bt ws)) Pl.aK) (Pl.bt ws)=0))=true:=by
     rw[Xj,decide_eq_true_eq,decide_eq_true_eq];exact hq
    rw[this]at qu;cases qu
   refine Xk ⟨h1,h2,⟨kind,name,Pl.bS kind L (Pl.bt ws)⟩,by rw[hiB],⟨hP.pw,hP.lt,hP.new, ?_, ?_, ?_⟩,⟨_,_,g,q,fB.frm h5 ?_, ?_⟩, ?_⟩
   ·show List.Pairwise _ (Pl.bS kind L (Pl.bt ws));rw[LI];exact pl_pair (pj kind) Pl.aK hP.lw _ th
   ·intro key;show Pl.aR (Pl.bS kind L (Pl.bt ws)) key≤10;rw[Kh];have MR:=hP.cnt key;have Vc:Pl.aR L key≤10:=MR;cases hq:Pl.eZ (Pl.bt ws).key key with
    |false=>simpa using Vc
    |true=>
     rw[lV hq]at Et;simp only[if_true];omega
   ·show (Pl.bS kind L (Pl.bt ws)).length≤k;rw[LI,At,Xm,Xo,Xy];omega
   ·intro hq;rcases hq with hq|hq
    ·have:=gh.1;omega
    ·have:=pc _ hq;omega
   ·rw[LI];rw[← mN]at Ie h4;have hrN:rb<wp.heap.size:=by
     have:=gh.1;omega
    exact M7 (N:=wp.heap.size) (pl:=atB A ⟨kind,name,L⟩) o2 o4' o5' o6' o7 o8 (ug _ _ _) Ie (OI zg) (fun b hb=>hF b (hff b hb)) OC hgN TO hrN h3 h4 h5 h6
   ·refine h5.below (fun b hq=> ?_) hb;have:=C.lo;rcases hq with rfl|hq
    ·have:=gh.1;omega
    ·have:=pc _ hq;omega
theorem Bj {st:Pl.PS} {ls:List ByteArray} {k j:Nat} (I9:k≤j) (hj:j<ls.length) (jo:Pl.blank ls k j):Pl.parseFrom st (ls.drop k) k=if Pl.dw st (ls.getD j Pl.aJ)=0 then Pl.parseFrom (Pl.gL st (ls.getD j Pl.aJ)) (ls.drop (j+1)) (j+1) else ([],j+1,Pl.dw st (ls.getD j Pl.aJ)):=by
 have e:k+(j - k)=j:=by omega
 have h:=r9 st ls (j - k) k (by omega) (by rw[e];exact jo);rw[e]at h;rw[h];exact KS st ls j hj
theorem GH {st:Pl.PS} {ls:List ByteArray} {k:Nat} (hk:k≤ls.length) (jo:Pl.blank ls k ls.length):Pl.parseFrom st (ls.drop k) k=if st.opn then ([],ls.length+1,8) else (st.acc,0,0):=by
 have e:k+(ls.length - k)=ls.length:=by omega
 have h:=r9 st ls (ls.length - k) k (by omega) (by rw[e];exact jo);rw[e]at h;rw[h,List.drop_length];rfl
def QR (rb:Nat) (mv:Value) (la:Option Addr) (lc:Nat) (ls:List ByteArray) (k:Nat) (bv:Value) (op:Int) (w:World) (e:Ending) (w':World):Prop:=
 ∃ j,k≤j∧j<ls.length∧Pl.blank ls k j∧e=.returned (.bool true)∧∃ a c F,aA w' rb 124 [mv,.slice la ls.length lc,.int .i64 ((j+1:Nat):Int),.slice a (Pl.aY (ls.getD j Pl.aJ)).length c,.bool (Pl.cJ (ls.getD j Pl.aJ)),bv,.int .i64 op]∧Rep w' false bm F [.row (Pl.aY (ls.getD j Pl.aJ)).length (txD (Pl.aY (ls.getD j Pl.aJ)))] [.slice a (Pl.aY (ls.getD j Pl.aJ)).length c]∧F.Nodup∧(∀ b∈F,w.heap.size≤b)∧(Pl.cJ (ls.getD j Pl.aJ)=true∨(Pl.aY (ls.getD j Pl.aJ)).length≠0)∧Marks (fun b=>b=rb) w w'
theorem xq {rb:Nat} {mv:Value} {la:Option Addr} {lc:Nat} {ls:List ByteArray} {k:Nat} {bv:Value} {op:Int} {w:World} {e:Ending} {w':World} (h:ED rb mv la lc ls k bv op w e w') (hn:¬ Pl.blank ls k ls.length):QR rb mv la lc ls k bv op w e w':=by
 rcases h with h|⟨h,_⟩
 ·exact h
 ·exact absurd h hn
theorem BD {rb:Nat} {mv:Value} {la:Option Addr} {lc:Nat} {ls:List ByteArray} {k:Nat} {bv:Value} {op:Int} {w:World} {e:Ending} {w':World} (h:ED rb mv la lc ls k bv op w e w') (hn:Pl.blank ls k ls.length):e=.returned (.bool false)∧(∃ cw cb,aA w' rb 124 [mv,.slice la ls.length lc,.int .i64 (ls.length:Nat),cw,.bool cb,bv,.int .i64 op])∧Marks (fun b=>b=rb) w w':=by
 rcases h with⟨j,h1,h2,_,_,a,c,F,_,_,_,_,h3,_⟩|⟨_,h⟩
 ·exfalso;have h:=hn j h1 h2;unfold Pl.cJ Pl.aY at h3;rw[h]at h3;rcases h3 with h3|h3
  ·cases h3
  ·exact h3 rfl
 ·exact h
theorem Below.QI {a b c:World} (h:Bel b c) (k:Bel a b):Bel a c:=
 (Frm.bB (S:=fun _=>False) h).below (fun _ h=>h.elim) k
theorem Fw {A:List Pl.Bl} {cur:Pl.Bl} {x:ByteArray} (h:(decide ((Pl.aY x).length=1)&&(((Pl.aY x).getD 0 Pl.aJ).toList==[101,110,100]))=true):Pl.dw ⟨A,cur,true⟩ x=0∧Pl.gL ⟨A,cur,true⟩ x=⟨Pl.eR A cur,cur,false⟩:=by
 have hl:(Pl.aY x).length=1:=by
  rw[Xj,decide_eq_true_eq]at h;exact h.1
 have hb:Pl.cJ x=false:=by
  unfold Pl.aY at hl;unfold Pl.cJ;cases hc:Pl.bo x.data.toList 0 with
  |none=>rw[hc]at hl;cases hl
  |some ws=>rfl
 obtain⟨h1,h2⟩:=uX hb ⟨A,cur,true⟩;have Tg:Pl.gq ⟨A,cur,true⟩ (Pl.aY x)=true:=by unfold Pl.gq;rw[h];rfl
 have h0:(Pl.aY x).length≠0:=by omega
 rw[h1,h2];unfold Pl.cY Pl.cn;rw[if_neg h0,if_neg h0,Tg];exact⟨rfl,rfl⟩
def SC (rb mb:Nat) (la:Option Addr) (lc:Nat) (ls:List ByteArray) (k:Nat) (A:List Pl.Bl) (W:World):Prop:=
 ∃ cw cb bv op,aA W rb 124 [.map (some mb),.slice la ls.length lc,.int .i64 (k:Nat),cw,.bool cb,bv,.int .i64 op]∧ClM rb A bv W
def Md (rb mb:Nat) (la:Option Addr) (lc:Nat) (ls:List ByteArray) (o:List Pl.Bl×Nat×Nat) (w0:World) (e:Ending) (w':World):Prop:=
 ((o.1=[]∧o.2.2≠0∧e=.returned (.iface 100 (.agg #[.int .i64 (o.2.1:Nat),.int .i64 (o.2.2:Nat)])))∨(o.2.1=0∧o.2.2=0∧e=.returned .nilIface∧o.1.length≤60∧∃ k,SC rb mb la lc ls k o.1 w'))∧Bel w0 w'
theorem qW {rb mb:Nat} {la:Option Addr} {lc:Nat} {ls:List ByteArray} {o:List Pl.Bl×Nat×Nat} {w0 w':World} {i c:Nat} (ho:o=([],i,c)) (hc:c≠0) (hb:Bel w0 w'):Md rb mb la lc ls o w0 (.returned (.iface 100 (.agg #[.int .i64 (i:Nat),.int .i64 (c:Nat)]))) w':=by
 subst ho;exact⟨No ⟨rfl,hc,rfl⟩,hb⟩
theorem Qr {rb mb:Nat} {la:Option Addr} {lc:Nat} {ls:List ByteArray} {vt vb vs:Value} {w0:World} (C:RdC rb mb la lc ls vt vb vs w0) (o:List Pl.Bl×Nat×Nat) (ho:Pl.parseFrom Pl.oJ ls 0=o) (w:World) (hs:SC rb mb la lc ls 0 [] w) (hb:Bel w0 w):
  Calls Tryz.prog 65 #[.pointer (some ⟨rb,0,none⟩)] w (Md rb mb la lc ls o w0):=by
 have HC:Hid (RdC rb mb la lc ls vt vb vs w0):=C;have HO:=uh ho;have HS:=uh hs;have HB:=uh hb;clear C ho hs hb;go_enter Tryz.func65,Tryz.ntmps65
 go_wp2;go_step3
 go_wp2;go_step3
 go_wp2;go_loopg [] ls.length (fun gk wr=>∃ (k:Nat) (A:List Pl.Bl) (cur:Pl.Bl),k+gk=ls.length∧Hid (Pl.parseFrom ⟨A,cur,false⟩ (ls.drop k) k=o)∧Hid ((A.Pairwise fun a b=>Pl.ahead a b=true)∧A.length≤60)∧Hid (SC rb mb la lc ls k A wr)∧Hid (Bel w0 wr))
 case atStart=>exact⟨0,[],Pl.oJ.cur,by omega,HO,⟨List.Pairwise.nil,zN⟩,HS,HB⟩
 case round=>
  obtain⟨k,A,cur,RR,AY,TC,nQ,Ec⟩:=hrel;obtain⟨cw,cb,bv,op,fB,fT⟩:=nQ.out;have HN:=uh (Mc rb (.map (some mb)) la lc ls k cw bv cb op w0 wr fB HC.out.lines Ec.out HC.out.lo (by omega) HC.out.sz (by have:=HC.out.len;omega));have jN:=uh fT;clear fB fT;by_cases hq:Pl.blank ls k ls.length
  ·have HQ:=uh hq;have HKL:Hid (k≤ls.length):=by show _≤_;omega
   clear hq RR;go_wp2_with (go_at_call 84;refine HN.out.mono ?_;intro e w1 hx;obtain⟨rfl,fc,iR⟩:=BD hx HQ.out;have kg:=uh fc;have jb:=uh iR;clear hx fc iR)
   try rw[Exit.noGoto_ret]
   go_ret;have he:o=(A,0,0):=AY.out.symm.trans ((GH HKL.out HQ.out).trans rfl);obtain⟨cw',cb',WW⟩:=kg.out;rw[he];exact⟨Xk ⟨rfl,rfl,rfl,TC.out.2,ls.length,_,_,_,_,WW,jN.out.frm (jb.out.frm fun _ h=>h)⟩,jb.out.below (fun b hb=>by rw[hb];exact HC.out.lo) Ec.out⟩
  ·have HQ:=uh hq;have HKG:=uh RR;clear hq RR;go_wp2_with (go_at_call 84;refine HN.out.mono ?_;intro e w1 hx;obtain⟨j,I9,wH,yO,rfl,a,c,F,fB,y8,l5,k9,dr,pJ⟩:=xq hx HQ.out;have Tn:Hid (k≤j∧j<ls.length):=⟨I9,wH⟩;have zh:=uh yO;have kX:=uh fB;have wI:=uh y8;have Ju:=uh dr;have jK:=uh pJ;clear hx I9 wH yO fB y8 l5 k9 dr pJ)
   have lS:Hid (Bel w0 w1):=jK.out.below (fun b hb=>by rw[hb];exact HC.out.lo) Ec.out;have tx:=AY.out;rw[Bj Tn.out.1 Tn.out.2 zh.out]at tx;have S3:=uh (N3 HC.out (ls.getD j Pl.aJ) (j+1) a c F A bv op cur w1 kX.out wI.out Ju.out (jN.out.frm (jK.out.frm fun _ h=>h)) lS.out TC.out.1 TC.out.2);by_cases qw:Pl.dw ⟨A,cur,false⟩ (ls.getD j Pl.aJ)=0
   rotate_left
   ·rw[if_neg qw]at tx;have LN:=uh tx;have eU:=uh qw;clear tx qw AY HN;go_wp2_with (go_at_call 85;refine S3.out.mono ?_;intro e w2 hx;obtain⟨_,rfl,iR⟩:=hx.resolve_right (fun h=>eU.out h.1);have jb:=uh iR;clear hx iR)
    try rw[Exit.noGoto_ret]
    go_ret;exact qW LN.out.symm eU.out (Below.QI jb.out lS.out)
   ·rw[if_pos qw]at tx;have LN:=uh tx;have eU:=uh qw;clear tx qw AY HN;go_wp2_with (go_at_call 85;refine S3.out.mono ?_;intro e w2 hx;obtain⟨_,rfl,bQ,iR,Jl,JB,MO⟩:=hx.resolve_left (fun h=>h.1 eU.out);have jb:=uh iR;have MS:=uh Jl;have JM:=uh JB;have Eb:=uh MO;clear hx iR Jl JB MO)
    have RQ:Hid (Pl.parseFrom ⟨A,bQ,true⟩ (ls.drop (j+1)) (j+1)=o):=by show _=_;rw[← jb.out];exact LN.out
    clear LN S3 kX wI Ju jK jN zh eU lS Ec nQ jb;go_loopg [] (ls.length - (j+1)) (fun gi wy=>∃ (k2:Nat) (cur:Pl.Bl),Hid (j+1≤k2∧k2+gi=ls.length)∧Hid (Pl.parseFrom ⟨A,cur,true⟩ (ls.drop k2) k2=o)∧Hid (OpP k2 A cur)∧Hid (SO rb mb la lc ls k2 A cur wy)∧Hid (Bel w0 wy))
    case atStart=>exact⟨j+1,bQ,⟨zE,by have:=Tn.out.2;omega⟩,RQ,MS,JM,Eb⟩
    case round=>
     obtain⟨k2,cR,sP,AY,uG,Tr,Ec⟩:=hrel;obtain⟨cw2,cb2,g2,q2,fB,ij⟩:=Tr.out;have HN:=uh (Mc rb (.map (some mb)) la lc ls k2 cw2 (.slice (some ⟨g2,0,none⟩) (A.length+1) q2) cb2 (atB A cR:Nat) w0 wr fB HC.out.lines Ec.out HC.out.lo (by have:=sP.out.2;omega) HC.out.sz (by have:=HC.out.len;omega));have HOM:=uh ij;clear fB ij RQ MS JM Eb;by_cases hq:Pl.blank ls k2 ls.length
     ·have HQ:=uh hq;clear hq;have he:([],ls.length+1,8)=o:=(AY.out.symm.trans ((GH (by have:=sP.out.2;omega) HQ.out).trans rfl)).symm;have HE:=uh he;have kC:Hid (ls.length≤400):=HC.out.len;have yS:(ls.length:Int)≤400:=by have:=kC.out;omega
      have hln0:(0:Int)≤(ls.length:Int):=by omega
      clear he;go_wp2_with (go_at_call 84;refine HN.out.mono ?_;intro e w3 hx;obtain⟨rfl,fc,iR⟩:=BD hx HQ.out;have jb:=uh iR;obtain⟨cw3,cb3,fc⟩:=fc;have c2:=fc.get 2 _ rfl;have cl:=fc.own.lt;clear hx fc iR)
      try rw[Exit.noGoto_ret]
      go_ret;exact qW HE.out.symm (by decide) (jb.out.below (fun b hb=>by rw[hb];exact HC.out.lo) Ec.out)
     ·have HQ:=uh hq;clear hq;go_wp2_with (go_at_call 84;refine HN.out.mono ?_;intro e w3 hx;obtain⟨j2,I9,wH,yO,rfl,a2,c2,F2,fB,y8,l5,k9,dr,pJ⟩:=xq hx HQ.out;have wB:Hid (k2≤j2∧j2<ls.length):=⟨I9,wH⟩;have zh:=uh yO;have kX:=uh fB;have wI:=uh y8;have Ju:=uh dr;have Ej:=uh l5;have qq:=uh k9;have jK:=uh pJ;clear hx I9 wH yO fB y8 l5 k9 dr pJ)
      have pG:Hid (Bel w0 w3):=jK.out.below (fun b hb=>by rw[hb];exact HC.out.lo) Ec.out;have HFM:Hid (Frm (fun b=>b=rb) wr w3):=jK.out.frm fun _ h=>h;have tx:=AY.out;rw[Bj wB.out.1 wB.out.2 zh.out]at tx;have MI:=uh (Qu rb (Pl.aY (ls.getD j2 Pl.aJ)) _ w3 (kX.out.get 3 _ rfl) kX.out.own.lt wI.out.raw);cases hen:(decide ((Pl.aY (ls.getD j2 Pl.aJ)).length=1)&&(((Pl.aY (ls.getD j2 Pl.aJ)).getD 0 Pl.aJ).toList==[101,110,100])) with
      |true=>
       rw[hen]at MI;obtain⟨s1,s2⟩:=Fw (A:=A) (cur:=cR) hen;rw[if_pos s1,s2]at tx;have Jb:=uh tx;clear tx hen s1 s2 AY HN;go_wp2_with (go_at_call 86;refine MI.out.mono ?_;rintro e w4 ⟨rfl,rfl⟩)
       go_roundg (ls.length - (j2+1))
       case measure=>
        have h1:=HKG.out;have h2:=Tn.out;have h3:=sP.out;have h4:=wB.out;omega
       case rel=>
        have hl:cR.lines.length≤maxLen:=by
         have h1:=uG.out.ln;have h2:=sP.out.2;have h3:=HC.out.len;unfold maxLen;omega
        have fT:=MU (HOM.out.frm HFM.out) (ug _ _ _) hl;have LI:Pl.eR A cR=A.take (atB A cR)++cR::A.drop (atB A cR):=lj Pl.ahead A cR;rw[← LI]at fT;refine⟨j2+1,Pl.eR A cR,cR,by have:=wB.out;omega,Jb,⟨?_, ?_⟩,⟨_,_,_,_,kX.out,fT⟩,pG⟩
        ·rw[LI];exact pl_pair uo Pl.aG TC.out.1 cR uG.out.new
        ·have h1:=uG.out.lt;rw[LI,At,Xm,Xo,Xy];omega
      |false=>
       have HAD:=uh (T7 HC.out (ls.getD j2 Pl.aJ) k2 (j2+1) a2 c2 F2 A g2 q2 cR wr w3 kX.out wI.out Ej.out qq.out Ju.out hen HOM.out HFM.out pG.out uG.out (by have:=wB.out;omega) (by have:=wB.out;have:=HC.out.len;omega));rw[hen]at MI;by_cases qw:Pl.dw ⟨A,cR,true⟩ (ls.getD j2 Pl.aJ)=0
       rotate_left
       ·rw[if_neg qw]at tx;have Jb:=uh tx;have eU:=uh qw;clear tx qw hen AY HN;go_wp2_with (first
         |(go_at_call 86;refine MI.out.mono ?_;rintro e w4 ⟨rfl,rfl⟩)
         |(go_at_call 87;refine HAD.out.mono ?_;intro e w5 hx;obtain⟨_,rfl,iR⟩:=hx.resolve_right (fun h=>eU.out h.1);have jb:=uh iR;clear hx iR))
        try rw[Exit.noGoto_ret]
        go_ret;exact qW Jb.out.symm eU.out (Below.QI jb.out pG.out)
       ·rw[if_pos qw]at tx;have Jb:=uh tx;have eU:=uh qw;clear tx qw hen AY HN;go_wp2_with (first
         |(go_at_call 86;refine MI.out.mono ?_;rintro e w4 ⟨rfl,rfl⟩)
         |(go_at_call 87;refine HAD.out.mono ?_;intro e w5 hx;obtain⟨_,rfl,Vu,iR,Jl,JB,MO⟩:=hx.resolve_left (fun h=>h.1 eU.out);have jb:=uh iR;have MS:=uh Jl;have JM:=uh JB;have Eb:=uh MO;clear hx iR Jl JB MO))
        go_roundg (ls.length - (j2+1))
        case measure=>
         have h3:=sP.out;have h4:=wB.out;omega
        case rel=>exact⟨j2+1,Vu,⟨by have:=wB.out;have:=sP.out;omega,by have:=wB.out;omega⟩,by show _=_;rw[← jb.out];exact Jb.out,MS,JM,Eb⟩
end Go.Proofs.YtgiglpnaekbegaaGreatDoor
namespace Go.Proofs.YtgiglpnaekbegaaGreatDoor
set_option maxHeartbeats 40000000
open Go.RowKit Go.Extern.Stop Go.Stop Go.Extern
theorem Nq (t:Value) (w:World):Calls Tryz.prog 50 #[.nilIface,t] w fun e w'=>e=.returned (.bool false)∧w=w':=by
 go_enter Tryz.func50,Tryz.ntmps50
 go_wp2;go_ret;exact⟨rfl,rfl⟩
theorem Tryz.Dg (t:Addr) (w:World):(ReflectliteValue.unpack (.iface 102 (.pointer (some t)))).run Tryz.prog w
  =.ok (.agg #[.pointer (some ⟨7,102,none⟩),.pointer (some ⟨w.heap.size,0,none⟩),.int .u64 150]) (w.alloc (.cells #[.pointer (some t)] 102)):=by kernel_rfl
theorem Tryz.type70 (a:Addr) (w:World):(ReflectliteValue.methodAny (ReflectliteValue.valueError "reflectlite.Value.Type" 0) (fun t _ _ _=>ReflectliteType.toType t) #[.agg #[.pointer (some ⟨7,102,none⟩),.pointer (some a),.int .u64 150]]).run Tryz.prog w
  =.ok (.iface 161 (.agg #[.pointer (some ⟨7,102,none⟩)])) w:=by kernel_rfl
theorem Tryz.Aq (h:Value) (w:World):(Go.method 392 161 (.agg #[h]) "Kind").run Tryz.prog w=.ok (198,h) w:=by kernel_rfl
theorem Tryz.NB (w:World):((ReflectliteType.abiMethod fun t=>(fun a:Nat=>Value.int IntKind.u8 (a:Int))<$>Rtype.kind t) #[.pointer (some ⟨7,102,none⟩)]).run Tryz.prog w=.ok (.int .u8 22) w:=by kernel_rfl
theorem Tryz.NR (w:World):((ReflectliteType.abiMethod fun t=>(fun a:Nat=>Value.int IntKind.u8 (a:Int))<$>Rtype.kind t) #[.pointer (some ⟨7,100,none⟩)]).run Tryz.prog w=.ok (.int .u8 25) w:=by kernel_rfl
theorem Tryz.zU (h:Value) (w:World):(Go.method 392 161 (.agg #[h]) "Elem").run Tryz.prog w=.ok (211,.agg #[h]) w:=by kernel_rfl
theorem Tryz.nX (h:Value) (w:World):(Go.method 392 161 (.agg #[h]) "Implements").run Tryz.prog w=.ok (212,.agg #[h]) w:=by kernel_rfl
theorem Tryz.mw (h:Value) (w:World):(Go.method 392 161 (.agg #[h]) "AssignableTo").run Tryz.prog w=.ok (209,.agg #[h]) w:=by kernel_rfl
theorem Tryz.Nt (w:World):(ReflectliteType.method ReflectliteType.elem #[.agg #[.pointer (some ⟨7,102,none⟩)]]).run Tryz.prog w=.ok (.iface 161 (.agg #[.pointer (some ⟨7,100,none⟩)])) w:=by kernel_rfl
theorem Tryz.vD (w:World):(ReflectliteType.relation "Implements" ReflectliteType.implements_ #[.agg #[.pointer (some ⟨7,100,none⟩)],.iface 161 (.agg #[.pointer (some ⟨7,52,none⟩)])]).run Tryz.prog w=.ok (.bool true) w:=by kernel_rfl
theorem Tryz.Hj (v:Value) (w:World):(ReflectliteType.typeOf #[.iface 100 v]).run Tryz.prog w=.ok (.iface 161 (.agg #[.pointer (some ⟨7,100,none⟩)])) w:=by kernel_rfl
theorem Tryz.vw (w:World):(ReflectliteType.relation "AssignableTo" ReflectliteType.assignableTo #[.agg #[.pointer (some ⟨7,100,none⟩)],.iface 161 (.agg #[.pointer (some ⟨7,100,none⟩)])]).run Tryz.prog w=.ok (.bool true) w:=by kernel_rfl
theorem Tryz.CU (x y:Value) (w:World):(ReflectliteValue.unpack (.iface 100 (.agg #[x,y]))).run Tryz.prog w
  =.ok (.agg #[.pointer (some ⟨7,100,none⟩),.pointer (some ⟨w.heap.size,0,none⟩),.int .u64 153]) (w.alloc (.cells #[x,y] 100)):=by kernel_rfl
theorem Tryz.Fm (w:World):(Rtype.elem? 102).run Tryz.prog w=.ok (some 100) w:=by kernel_rfl
theorem Tryz.T5 (p:Addr) (w:World):(ReflectliteValue.mk 100 p ReflectliteValue.flagAddr).run Tryz.prog w=.ok (.agg #[.pointer (some ⟨7,100,none⟩),.pointer (some p),.int .u64 409]) w:=by kernel_rfl
theorem Tryz.JY (a p:Addr) (W:World) (ha:W.cell? a=some (.pointer (some p))):
  (ReflectliteValue.method (ReflectliteValue.valueError "reflectlite.Value.IsNil" 0) ReflectliteValue.isNil #[.agg #[.pointer (some ⟨7,102,none⟩),.pointer (some a),.int .u64 150]]).run Tryz.prog W=.ok (.bool false) W:=by
 have e:(ReflectliteValue.method (ReflectliteValue.valueError "reflectlite.Value.IsNil" 0) ReflectliteValue.isNil #[.agg #[.pointer (some ⟨7,102,none⟩),.pointer (some a),.int .u64 150]]).run Tryz.prog W=(ReflectliteValue.isNil 102 a 150 22).run Tryz.prog W:=by kernel_rfl
 rw[e];simp[ReflectliteValue.isNil,loadVar,isAgg,underlying,Tryz.underlying102,ha,Result.andThen]
theorem Tryz.J4 (a p:Addr) (W:World) (ha:W.cell? a=some (.pointer (some p))):
  (ReflectliteValue.method (ReflectliteValue.valueError "reflectlite.Value.Elem" 0) ReflectliteValue.elem #[.agg #[.pointer (some ⟨7,102,none⟩),.pointer (some a),.int .u64 150]]).run Tryz.prog W
   =.ok (.agg #[.pointer (some ⟨7,100,none⟩),.pointer (some p),.int .u64 409]) W:=by
 have e:(ReflectliteValue.method (ReflectliteValue.valueError "reflectlite.Value.Elem" 0) ReflectliteValue.elem #[.agg #[.pointer (some ⟨7,102,none⟩),.pointer (some a),.int .u64 150]]).run Tryz.prog W=(ReflectliteValue.elem 102 a 150 22).run Tryz.prog W:=by kernel_rfl
 rw[e];simp[ReflectliteValue.elem,loadVar,isAgg,underlying,Tryz.underlying102,ha,Result.andThen,Tryz.Fm,Tryz.T5]
theorem M0 (b:Nat) (x y:Value) (W:World) (aU:W.cell? ⟨b,0,none⟩=some x) (cr:W.cell? ⟨b,1,none⟩=some y):(loadVar 100 ⟨b,0,none⟩).run Tryz.prog W=.ok (.agg #[x,y]) W:=by
 simp[loadVar,loadCells,loadCellsFrom,Addr.add,aU,cr,Result.andThen]
theorem Ka (tb:Nat) (x y:Int) (o0 o1:Value) (W:World) (ht0:W.cell? ⟨tb,0,none⟩=some o0) (ht1:W.cell? ⟨tb,1,none⟩=some o1) (hf:∀ o,W.frozen? ⟨tb,o,none⟩=false):
  (storeVar 100 ⟨tb,0,none⟩ (.agg #[.int .i64 x,.int .i64 y])).run Tryz.prog W=.ok () ((W.setCell ⟨tb,0,none⟩ (.int .i64 x)).setCell ⟨tb,1,none⟩ (.int .i64 y)):=by
 simp[storeVar,Value.cells,storeCells,Addr.add,Result.andThen];rw[run_store Tryz.prog W ⟨tb,0,none⟩ _ _ (by rfl)];simp only[ht0,hf,Yo,if_false];rw[run_store Tryz.prog _ ⟨tb,1,none⟩ _ _ (by rfl)];rw[World.cell?_setCell_other _ _ _ _ (by simp),ht1];simp[hf]
theorem Tryz.Ql (tb b:Nat) (x y:Int) (o0 o1:Value) (W:World) (aU:W.cell? ⟨b,0,none⟩=some (.int .i64 x)) (cr:W.cell? ⟨b,1,none⟩=some (.int .i64 y)) (ht0:W.cell? ⟨tb,0,none⟩=some o0) (ht1:W.cell? ⟨tb,1,none⟩=some o1) (hf:∀ o,W.frozen? ⟨tb,o,none⟩=false):
  (ReflectliteValue.set #[.agg #[.pointer (some ⟨7,100,none⟩),.pointer (some ⟨tb,0,none⟩),.int .u64 409],.agg #[.pointer (some ⟨7,100,none⟩),.pointer (some ⟨b,0,none⟩),.int .u64 153]]).run Tryz.prog W
   =.ok (.tuple #[]) ((W.setCell ⟨tb,0,none⟩ (.int .i64 x)).setCell ⟨tb,1,none⟩ (.int .i64 y)):=by
 have e:(ReflectliteValue.set #[.agg #[.pointer (some ⟨7,100,none⟩),.pointer (some ⟨tb,0,none⟩),.int .u64 409],.agg #[.pointer (some ⟨7,100,none⟩),.pointer (some ⟨b,0,none⟩),.int .u64 153]]).run Tryz.prog W
   =(((loadVar 100 ⟨b,0,none⟩)>>=fun val=>(storeVar 100 ⟨tb,0,none⟩ val)>>=fun _=>pure (Value.tuple #[])):Sem Value).run Tryz.prog W:=by kernel_rfl
 rw[e];simp only[Sem.run_bind,M0 b _ _ W aU cr,Result.andThen,Ka tb x y o0 o1 W ht0 ht1 hf];rfl
theorem Na (tb:Nat) (x y:Int) (o0 o1:Value) (w:World) (hg:w.cell? ⟨0,0,none⟩=some (.iface 161 (.agg #[.pointer (some ⟨7,52,none⟩)]))) (ht0:w.cell? ⟨tb,0,none⟩=some o0) (ht1:w.cell? ⟨tb,1,none⟩=some o1) (MJ:∀ o,w.frozen? ⟨tb,o,none⟩=false) (mN:tb<w.heap.size):
  Calls Tryz.prog 50 #[.iface 100 (.agg #[.int .i64 x,.int .i64 y]),.iface 102 (.pointer (some ⟨tb,0,none⟩))] w fun ev w'=>ev=.returned (.bool true)∧w'=(((((w.alloc (.cells #[.pointer (some ⟨tb,0,none⟩)] 102)).alloc (.cells #[.pointer (some ⟨7,102,none⟩),.pointer (some ⟨w.heap.size,0,none⟩),.int .u64 150] 128)).alloc (.cells #[.pointer (some ⟨7,102,none⟩),.pointer (some ⟨w.heap.size,0,none⟩),.int .u64 150] 128)).alloc (.cells #[.int .i64 x,.int .i64 y] 100)).setCell ⟨tb,0,none⟩ (.int .i64 x)).setCell ⟨tb,1,none⟩ (.int .i64 y):=by
 have h49:= @run_callFunc_extern Tryz.prog 66 _ (fun args=>ReflectliteValue.unpack (args.getD 0 (.tuple #[]))) Tryz.func66 (by kernel_rfl) (by kernel_rfl) (by kernel_rfl) (by kernel_rfl);have h50:= @run_callFunc_extern Tryz.prog 67 _ (ReflectliteValue.methodAny (ReflectliteValue.valueError "reflectlite.Value.Type" 0) (fun t _ _ _=>ReflectliteType.toType t)) Tryz.func67 (by kernel_rfl) (by kernel_rfl) (by kernel_rfl) (by kernel_rfl);have h51:= @run_callFunc_extern Tryz.prog 68 _ (ReflectliteValue.method (ReflectliteValue.valueError "reflectlite.Value.IsNil" 0) ReflectliteValue.isNil) Tryz.func68 (by kernel_rfl) (by kernel_rfl) (by kernel_rfl) (by kernel_rfl);have h85:= @run_callFunc_extern Tryz.prog 198 _ (ReflectliteType.abiMethod fun t=>do pure (.int .u8 (← Rtype.kind t))) Tryz.func198 (by kernel_rfl) (by kernel_rfl) (by kernel_rfl) (by kernel_rfl);have h95:= @run_callFunc_extern Tryz.prog 211 _ (ReflectliteType.method ReflectliteType.elem) Tryz.func211 (by kernel_rfl) (by kernel_rfl) (by kernel_rfl) (by kernel_rfl);have h96:= @run_callFunc_extern Tryz.prog 212 _ (ReflectliteType.relation "Implements" ReflectliteType.implements_) Tryz.func212 (by kernel_rfl) (by kernel_rfl) (by kernel_rfl) (by kernel_rfl);have Li:= @run_callFunc_extern Tryz.prog 88 _ ReflectliteType.typeOf Tryz.func88 (by kernel_rfl) (by kernel_rfl) (by kernel_rfl) (by kernel_rfl);have h93:= @run_callFunc_extern Tryz.prog 209 _ (ReflectliteType.relation "AssignableTo" ReflectliteType.assignableTo) Tryz.func209 (by kernel_rfl) (by kernel_rfl) (by kernel_rfl) (by kernel_rfl);have h61:= @run_callFunc_extern Tryz.prog 89 _ (ReflectliteValue.method (ReflectliteValue.valueError "reflectlite.Value.Elem" 0) ReflectliteValue.elem) Tryz.func89 (by kernel_rfl) (by kernel_rfl) (by kernel_rfl) (by kernel_rfl);have h62:= @run_callFunc_extern Tryz.prog 90 _ ReflectliteValue.set Tryz.func90 (by kernel_rfl) (by kernel_rfl) (by kernel_rfl) (by kernel_rfl);have tO:=Tryz.Hj;have mA:=Tryz.mw;have a68:=Tryz.vw;have v68:=Tryz.CU;have f6:=Tryz.Dg;have f7:=Tryz.type70;have mK:=Tryz.Aq;have mE:=Tryz.zU;have mI:=Tryz.nX;have k70:=Tryz.NB;have k68:=Tryz.NR;have e70:=Tryz.Nt;have i68:=Tryz.vD;have bq:0<w.heap.size:=by omega
 have n8:=Tryz.JY ⟨w.heap.size,0,none⟩ ⟨tb,0,none⟩ ((w.alloc (.cells #[.pointer (some ⟨tb,0,none⟩)] 102)).alloc (.cells #[.pointer (some ⟨7,102,none⟩),.pointer (some ⟨w.heap.size,0,none⟩),.int .u64 150] 128)) (by simp);have pV:((w.alloc (.cells #[.pointer (some ⟨tb,0,none⟩)] 102)).alloc (.cells #[.pointer (some ⟨7,102,none⟩),.pointer (some ⟨w.heap.size,0,none⟩),.int .u64 150] 128)).cell? ⟨0,0,none⟩=some (.iface 161 (.agg #[.pointer (some ⟨7,52,none⟩)])):=by
  rw[World.cell?_alloc_lt _ _ ⟨0,0,none⟩ (by simp),World.cell?_alloc_lt _ _ ⟨0,0,none⟩ bq];exact hg
 have el:=Tryz.J4 ⟨w.heap.size,0,none⟩ ⟨tb,0,none⟩ (((w.alloc (.cells #[.pointer (some ⟨tb,0,none⟩)] 102)).alloc (.cells #[.pointer (some ⟨7,102,none⟩),.pointer (some ⟨w.heap.size,0,none⟩),.int .u64 150] 128)).alloc (.cells #[.pointer (some ⟨7,102,none⟩),.pointer (some ⟨w.heap.size,0,none⟩),.int .u64 150] 128)) (by rw[World.cell?_alloc_lt _ _ ⟨w.heap.size,0,none⟩ (by simp;omega)];simp);have hold:Bel w ((((w.alloc (.cells #[.pointer (some ⟨tb,0,none⟩)] 102)).alloc (.cells #[.pointer (some ⟨7,102,none⟩),.pointer (some ⟨w.heap.size,0,none⟩),.int .u64 150] 128)).alloc (.cells #[.pointer (some ⟨7,102,none⟩),.pointer (some ⟨w.heap.size,0,none⟩),.int .u64 150] 128)).alloc (.cells #[.int .i64 x,.int .i64 y] 100)):=af (af (af (af zR _) _) _) _;have st:=Tryz.Ql tb (w.heap.size+1+1+1) x y o0 o1 ((((w.alloc (.cells #[.pointer (some ⟨tb,0,none⟩)] 102)).alloc (.cells #[.pointer (some ⟨7,102,none⟩),.pointer (some ⟨w.heap.size,0,none⟩),.int .u64 150] 128)).alloc (.cells #[.pointer (some ⟨7,102,none⟩),.pointer (some ⟨w.heap.size,0,none⟩),.int .u64 150] 128)).alloc (.cells #[.int .i64 x,.int .i64 y] 100))
  (by rw[World.cell?_alloc_at _ _ _ _ (by simp)];rfl) (by rw[World.cell?_alloc_at _ _ _ _ (by simp)];rfl)
  ((hold.cell (p:=⟨tb,0,none⟩) mN).trans ht0) ((hold.cell (p:=⟨tb,1,none⟩) mN).trans ht1) (fun o=>(hold.frozen (p:=⟨tb,o,none⟩) mN).trans (MJ o))
 clear hold;go_enter Tryz.func50,Tryz.ntmps50
 go_wp2;refine wp_loop_rounds 1 ?_;rw[rounds_succ];go_wp2;go_ret;exact⟨rfl,rfl⟩
end Go.Proofs.YtgiglpnaekbegaaGreatDoor
namespace Go.Proofs.YtgiglpnaekbegaaGreatDoor
set_option maxRecDepth 8000
set_option maxHeartbeats 40000000
open Go.RowKit Go.Deep
def Hr (o:List Pl.Bl×Nat×Nat) (w:World) (e:Ending) (w':World):Prop:=
 ((o.1=[]∧o.2.2≠0∧e=.returned (.tuple #[.slice none 0 0,.iface 100 (.agg #[.int .i64 (o.2.1:Nat),.int .i64 (o.2.2:Nat)])]))∨(o.2.1=0∧o.2.2=0∧∃ bv F,e=.returned (.tuple #[bv,.nilIface])∧Rep w' false [.row 58 aq] F [cq o.1] [bv]∧F.Nodup∧∀ b∈F,w.heap.size≤b))∧Bel w w'
theorem tQ {o:List Pl.Bl×Nat×Nat} {w w':World} {i c:Nat} (ho:o=([],i,c)) (hc:c≠0) (hb:Bel w w'):Hr o w (.returned (.tuple #[.slice none 0 0,.iface 100 (.agg #[.int .i64 (i:Nat),.int .i64 (c:Nat)])])) w':=by
 subst ho;exact⟨No ⟨rfl,hc,rfl⟩,hb⟩
theorem Ac (t:ByteArray) (w:World) (hs:t.size≤1048576):Calls Tryz.prog 49 #[.string t] w (Hr (Pl.aI t) w):=by
 have Qf:=uh (yx t w (by unfold maxLen;omega));obtain⟨o,ho⟩:∃ o,o=Pl.aI t:=⟨_,rfl⟩
 rw[← ho];have HO:=uh ho;clear ho;by_cases hbig:20000<t.size
 ·have fy:Hid (o=([],0,11)):=by show _=_;rw[HO.out];unfold Pl.aI;rw[if_pos hbig]
  have S3:=uh hbig;clear hbig;go_enter Tryz.func49,Tryz.ntmps49
  go_wp2_with (go_at_call 63;refine Qf.out.mono ?_;intro e w1 hx;obtain⟨fc,iR⟩:=hx;unfold Bh at fc;rw[if_pos S3.out]at fc;subst fc;have jb:=uh iR;clear iR)
  go_ret2;exact tQ fy.out (by decide) jb.out
 have wA:Hid (t.size≤20000):=by show _≤_;omega
 obtain⟨ls,nK⟩:∃ ls,ls=Pl.fz t:=⟨_,rfl⟩
 have LY:Hid (Calls Tryz.prog 63 #[.string t] w fun e w'=>∃ g c,e=.returned (.tuple #[.slice (some ⟨g,0,none⟩) ls.length c,.bool (decide (ls.length≤400))])∧Raw w' bm [.row ls.length (txD ls)] [.slice (some ⟨g,0,none⟩) ls.length c]∧Bel w w'):=by
  refine Qf.out.mono ?_;intro e w1 hx;obtain⟨fc,iR⟩:=hx;unfold Bh at fc;rw[if_neg hbig,← nK]at fc;obtain⟨g,c,h1,h2⟩:=fc;exact⟨g,c,h1,h2,iR⟩
 have jQ:Hid (∀ x∈ls,x.size≤1048576):=fun x hx=>by
  rw[nK]at hx;have h1:=Pl.uf t x hx;have h2:=wA.out;omega
 have Uy:Hid (o=if 400<ls.length then ([],0,11) else Pl.parseFrom Pl.oJ ls 0):=by show _=_;rw[HO.out,nK];unfold Pl.aI;rw[if_neg hbig]
 clear nK hbig Qf;by_cases h4:ls.length≤400
 rotate_left
 ·have fy:Hid (o=([],0,11)):=by show _=_;rw[Uy.out,if_pos (by omega)]
  have hd:decide (ls.length≤400)=false:=decide_eq_false h4;rw[hd]at LY;clear h4 hd;go_enter Tryz.func49,Tryz.ntmps49
  go_wp2_with (go_at_call 63;refine LY.out.mono ?_;intro e w1 hx;obtain⟨g,c,rfl,fc,iR⟩:=hx;have jb:=uh iR;clear fc iR)
  go_ret2;exact tQ fy.out (by decide) jb.out
 have fy:Hid (Pl.parseFrom Pl.oJ ls 0=o):=by show _=_;rw[Uy.out,if_neg (by omega)]
 have hd:decide (ls.length≤400)=true:=decide_eq_true h4;rw[hd]at LY;have HL4:=uh h4;have HK:=uh kG;clear h4 hd HO Uy;go_enter Tryz.func49,Tryz.ntmps49
 go_wp2_with (go_at_call 63;refine LY.out.mono ?_;intro e w1 hx;obtain⟨g,c,rfl,fc,iR⟩:=hx;have kg:=uh fc;have jb:=uh iR;clear fc iR)
 refine(HK.out _).mono ?_;rintro e w2 ⟨mb,w0,vt,vb,vs,rfl,hm,h0,k1,k2,k3,hb⟩;have Pp:Hid (∀ kind,∃ ra rc,iT kind vt vb vs=.slice ra (Pl.ah kind).length rc∧Raw w2 [.row 75 aB] [bV (Pl.ah kind)] [.slice ra (Pl.ah kind).length rc]):=fun kind=>by
  obtain⟨v,F,he,gC,_⟩:=qH (w:=w1) kind h0 k1 k2 k3 hb;injection he with he
  obtain⟨ra,rc,hv⟩:=gC.raw.aT;subst hv;exact⟨ra,rc,he,gC.raw⟩
 have HC:Hid (RdC w2.heap.size mb (some ⟨g,0,none⟩) c ls vt vb vs w2):=⟨kg.out.later hb,hm,Pp.out,zE,HL4.out,jQ.out⟩
 have eM:Hid (Bel w w2):=ae jb.out hb;clear hm h0 k1 k2 k3 hb Pp kg jb HK;obtain⟨w3,kf⟩:∃ w3,w3=w2.alloc (.cells #[.map (some mb),.slice (some ⟨g,0,none⟩) ls.length c,.int .i64 0,.slice none 0 0,.bool false,.slice none 0 0,.int .i64 0] 124):=⟨_,rfl⟩
 have pG:Hid (Bel w2 w3):=by show Below _ _ _;rw[kf];exact af zR _
 have nQ:Hid (SC w2.heap.size mb (some ⟨g,0,none⟩) c ls 0 [] w3):=by
  refine⟨.slice none 0 0,false,.slice none 0 0,0, ?_,[],[],⟨rfl,.inl ⟨rfl,rfl⟩⟩,.nil,XL,(fun b hb=>by cases hb),(fun g hg=>by cases hg)⟩;rw[kf];exact aA.new w2 _ _ _ rfl
 have Wh:=uh (Qr HC.out o fy.out w3 nQ.out pG.out);obtain⟨rb,OG⟩:∃ rb,rb=w2.heap.size:=⟨_,rfl⟩
 have wO:=uh OG;go_upto_region 5 with fail
 rw[← kf];clear kf;rw[← OG]at Wh ⊢;have tq:Hid (Bel w w3):=ae eM.out pG.out;by_cases hz:o.2.2=0
 rotate_left
 ·have HZ:=uh hz;clear hz OG;go_wp2_with (go_at_call 65;refine Wh.out.mono ?_;intro e w4 hx;obtain⟨fc,iR⟩:=hx;obtain⟨Jl,JB,rfl⟩:=fc.resolve_right (fun h=>HZ.out h.2.1);have jb:=uh iR;have MS:=uh Jl;have JM:=uh JB;clear fc iR Jl JB)
  go_ret2;exact⟨No ⟨MS.out,JM.out,rfl⟩,ae eM.out jb.out⟩
 ·have HZ:=uh hz;clear hz OG;go_wp2_with (go_at_call 65;refine Wh.out.mono ?_;intro e w4 hx;obtain⟨fc,iR⟩:=hx;obtain⟨Jl,JB,rfl,MO,k,cw,cb,bv,op,fB,fT⟩:=fc.resolve_left (fun h=>h.2.1 HZ.out);have jb:=uh iR;have MS:=uh Jl;have Eb:=uh MO;have jN:=uh fT;have c5:=fB.get 5 _ rfl;have cl:=fB.own.lt;clear fc iR Jl JB MO fB fT)
  go_ret2;obtain⟨cs,F,q1,q2,q3,q4,q5⟩:=jN.out;obtain⟨G,r,n1,n2,_⟩:=tH (sh:=aq) q1 q2 (fun e=>by rw[Xs e];rfl) (by have:=Eb.out;unfold maxLen;omega) q3 q4 q5;refine⟨Xk ⟨MS.out,HZ.out,bv,G,rfl,r,n1,fun b hb=> ?_⟩,ae eM.out jb.out⟩;have h1:=n2 b hb;have h2:=wO.out;have h3:=eM.out.size;omega
def rS (W:World):Prop:=W.cell? ⟨0,0,none⟩=some (.iface 161 (.agg #[.pointer (some ⟨7,52,none⟩)]))
theorem rS.lt {W:World} (h:rS W):0<W.heap.size:=by
 rcases YB 0 W.heap.size with q|q
 ·exact q
 ·unfold rS World.cell? at h;rw[XW (by simpa using q)]at h;cases h
theorem rS.later {W W':World} (h:rS W) (hb:Bel W W'):rS W':=(hb.cell (p:=⟨0,0,none⟩) h.lt).trans h
theorem JZ (tb:Nat) (x y:Int) (w w3:World) (Ee:tb=w.heap.size) (kf:w3=w.alloc (.cells #[.int .i64 0,.int .i64 0] 100)) (hg:rS w):
  Calls Tryz.prog 50 #[.iface 100 (.agg #[.int .i64 x,.int .i64 y]),.iface 102 (.pointer (some ⟨tb,0,none⟩))] w3 fun ev w'=>ev=.returned (.bool true)∧Bel w w'∧w'.cell? ⟨tb,0,none⟩=some (.int .i64 x)∧w'.cell? ⟨tb,1,none⟩=some (.int .i64 y)∧tb<w'.heap.size:=by
 have fL:=aA.new w [.int .i64 0,.int .i64 0] 100 tb Ee;have ku:Bel w w3:=by rw[kf];exact af zR _
 rw[← kf]at fL;refine(Na tb x y (.int .i64 0) (.int .i64 0) w3 (hg.later ku) (fL.get 0 _ rfl) (fL.get 1 _ rfl) (fun o=>by obtain⟨cur,hc,_⟩:=fL.own;simp[World.frozen?,hc]) fL.own.lt).mono ?_;rintro ev w' ⟨rfl,rfl⟩;have Tw:=af (af (af (af (Below.refl w3.heap.size w3) (.cells #[.pointer (some ⟨tb,0,none⟩)] 102)) (.cells #[.pointer (some ⟨7,102,none⟩),.pointer (some ⟨w3.heap.size,0,none⟩),.int .u64 150] 128)) (.cells #[.pointer (some ⟨7,102,none⟩),.pointer (some ⟨w3.heap.size,0,none⟩),.int .u64 150] 128)) (.cells #[.int .i64 x,.int .i64 y] 100);have oZ:=(fL.later Tw)
 have h1:=oZ.set 0 (.int .i64 x) (by decide);have h2:=h1.set 1 (.int .i64 y) (by simp);exact⟨rfl,((ae ku Tw).setCell (p:=⟨tb,0,none⟩) (show w.heap.size≤tb by omega) _).setCell (p:=⟨tb,1,none⟩) (show w.heap.size≤tb by omega) _,h2.get 0 _ rfl,h2.get 1 _ rfl,h2.own.lt⟩
theorem Bf {W:World} {p:Nat} {u:TypeId} {cs:List Value} (h:aA W p u cs):∀ o,W.frozen? ⟨p,o,none⟩=false:=fun o=>by
 obtain⟨cur,hc,_⟩:=h.own;simp[World.frozen?,hc]
theorem lD {S:Nat→Prop} (W:World) (b o:Nat) (v:Value) (h:S b):Frm S W (W.setCell ⟨b,o,none⟩ v):=
 ⟨rfl,rfl,rfl,by simp[World.setCell],fun k _ hn=>Below.heap_setCell _ _ _ _ (fun e=>hn (by rw[e];exact h))⟩
theorem pn (t:ByteArray) (w:World) (hg:rS w) (hs:t.size≤1048576):Calls Tryz.prog 30 #[.string t] w (zu (Pl.aI t) w):=by
 obtain⟨o,ho⟩:∃ o,o=Pl.aI t:=⟨_,rfl⟩
 have Ij:Hid (∀ X,Calls Tryz.prog 49 #[.string t] X (Hr o X)):=fun X=>by rw[ho];exact Ac t X hs
 rw[← ho];clear ho;have HG:=uh hg;clear hg;obtain⟨b0,aU⟩:∃ b0,b0=w.heap.size:=⟨_,rfl⟩
 obtain⟨w1,gB⟩:∃ w1,w1=(w.alloc (.cells #[.slice none 0 0] 26)).alloc (.cells #[.int .i64 0,.int .i64 0] 28):=⟨_,rfl⟩
 have lS:Hid (Bel w w1):=by show Below _ _ _;rw[gB];exact af (af zR _) _
 have WD:Hid (aA w1 b0 26 [.slice none 0 0]):=by
  show aA _ _ _ _;rw[gB];exact(aA.new w [.slice none 0 0] _ b0 aU).later (af zR _)
 have kg:Hid (aA w1 (b0+1) 28 [.int .i64 0,.int .i64 0]):=by
  show aA _ _ _ _;rw[gB];exact aA.new _ [.int .i64 0,.int .i64 0] _ _ (by simp[aU])
 have kv:Hid (b0=w.heap.size):=aU;by_cases hz:o.2.2=0
 ·have HZ:=uh hz;clear hz;go_enter Tryz.func30,Tryz.ntmps30
  go_upto_region 1 with fail
  rw[← gB,← aU];clear gB aU;go_upto_region 2 with(go_at_call 49;refine(Ij.out _).mono ?_;intro e w2 hx;obtain⟨fc,iR⟩:=hx;obtain⟨h1,h2,bv,F,rfl,h3,h4,h5⟩:=fc.resolve_left (fun h=>h.2.1 HZ.out);obtain⟨ya,yc,hbv⟩:=h3.raw.aT;subst hbv;have jb:=uh iR;have AU:=uh h1;have HR:=uh h3;have Ej:=uh h4;have mP:=uh h5;clear fc iR h1 h2 h3 h4 h5)
  obtain⟨w3,kf⟩:∃ w3,w3=w2.alloc (.cells #[.int .i64 0,.int .i64 0] 100):=⟨_,rfl⟩
  have Jn:Hid (Bel w2 w3):=by show Below _ _ _;rw[kf];exact af zR _
  have Y0:=(WD.out.later jb.out).later Jn.out;have Y1:=(kg.out.later jb.out).later Jn.out;have y0:=Y0.get 0 _ rfl;have y1:=Y1.get 0 _ rfl;have y2:=Y1.get 1 _ rfl;have f0:=Bf Y0;have f1:=Bf Y1;have l0:=Y0.own.lt;have l1:=Y1.own.lt;have El:Hid (b0+1<w1.heap.size):=kg.out.own.lt;obtain⟨X,hX⟩:∃ X,X=((w3.setCell ⟨b0,0,none⟩ (.slice ya o.1.length yc)).setCell ⟨b0+1,0,none⟩ (.int .i64 0)).setCell ⟨b0+1,1,none⟩ (.int .i64 0):=⟨_,rfl⟩
  have tm:=uh hX;have nb:b0≠b0+1:=by omega
  have nb2:b0+1≠b0:=by omega
  have AZ:Hid (aA X b0 26 [(.slice ya o.1.length yc)]):=by
   show aA _ _ _ _;rw[hX];exact((Y0.set 0 (.slice ya o.1.length yc) (by simp)).other nb 0 (.int .i64 0)).other nb 1 (.int .i64 0)
  have Cm:Hid (aA X (b0+1) 28 [.int .i64 0,.int .i64 0]):=by
   show aA _ _ _ _;rw[hX];exact((Y1.other nb2 0 (.slice ya o.1.length yc)).set 0 (.int .i64 0) (by simp)).set 1 (.int .i64 0) (by simp)
  clear hX;clear Y0 Y1;go_upto_region 3 with fail
  rw[← kf];clear kf;go_wp2_with (go_at_call 50;refine(Nq _ _).mono ?_;rintro e w4 ⟨rfl,rfl⟩)
  rw[← tm.out];refine bodyPost_ret (v:=.tuple #[.agg #[(.slice ya o.1.length yc)],.agg #[.int .i64 0,.int .i64 0]]) (by simp[results,Tryz.results30,asAddr,run_loadVar_mid (P:=Tryz.prog) _ _ _ 26 [(.slice ya o.1.length yc)] _ AZ.out.at_ Tryz.underlying26 rfl (by kernel_rfl),run_loadVar_mid (P:=Tryz.prog) _ _ _ 28 [.int .i64 0,.int .i64 0] _ Cm.out.at_ Tryz.underlying28 rfl (by kernel_rfl)]) rfl ?_;have hf:Frm (fun b=>b=b0∨b=b0+1) w3 X:=by
   rw[tm.out];exact((lD _ _ _ _ (No rfl)).trans (lD _ _ _ _ (Xk rfl))).trans (lD _ _ _ _ (Xk rfl))
  have hr:=(HR.out.later Jn.out).frm hf (fun b hb e=>by
   have h1:=mP.out b hb;have h2:=El.out;omega)
  refine⟨[(.slice ya o.1.length yc)],F,by rw[AU.out,HZ.out];rfl,hr,Ej.out,fun b hb=> ?_, ?_⟩
  ·have h1:=mP.out b hb;have h2:=lS.out.size;omega
  ·exact hf.below (fun b e=>by have:=kv.out;omega) (ae (ae lS.out jb.out) Jn.out)
 ·have HZ:=uh hz;clear hz;go_enter Tryz.func30,Tryz.ntmps30
  go_upto_region 1 with fail
  rw[← gB,← aU];clear gB aU;go_upto_region 2 with(go_at_call 49;refine(Ij.out _).mono ?_;intro e w2 hx;obtain⟨fc,iR⟩:=hx;obtain⟨h1,h2,rfl⟩:=fc.resolve_right (fun h=>HZ.out h.2.1);have jb:=uh iR;have AU:=uh h1;clear fc iR h1 h2)
  obtain⟨w3,kf⟩:∃ w3,w3=w2.alloc (.cells #[.int .i64 0,.int .i64 0] 100):=⟨_,rfl⟩
  have Jn:Hid (Bel w2 w3):=by show Below _ _ _;rw[kf];exact af zR _
  obtain⟨tb,Ee⟩:∃ tb,tb=w2.heap.size:=⟨_,rfl⟩
  have VL:=uh Ee;have Ey:=uh (JZ tb ((o.2.1:Nat):Int) ((o.2.2:Nat):Int) w2 w3 Ee kf ((HG.out.later lS.out).later jb.out));go_upto_region 3 with fail
  rw[← kf,← Ee];clear kf Ee;go_upto_region 4 with(go_at_call 50;refine Ey.out.mono ?_;intro e w4 hx;obtain⟨rfl,fc,t0,t1,tl⟩:=hx;have JM:=uh fc;clear fc)
  have Y0:=(WD.out.later jb.out).later JM.out;have Y1:=(kg.out.later jb.out).later JM.out;have y0:=Y0.get 0 _ rfl;have y1:=Y1.get 0 _ rfl;have y2:=Y1.get 1 _ rfl;have f0:=Bf Y0;have f1:=Bf Y1;have l0:=Y0.own.lt;have l1:=Y1.own.lt;have yZ:Hid (b0+1<tb):=by
   have h1:=kg.out.own.lt;have h2:=jb.out.size;have h3:=VL.out;show _<_;omega
  have n1:tb≠b0:=by have:=yZ.out;omega
  have n2:tb≠b0+1:=by have:=yZ.out;omega
  have n3:b0≠tb:=by have:=yZ.out;omega
  have n4:b0+1≠tb:=by have:=yZ.out;omega
  obtain⟨X,hX⟩:∃ X,X=(((w4.setCell ⟨b0,0,none⟩ (.slice none 0 0)).setCell ⟨b0+1,0,none⟩ (.int .i64 ((o.2.1:Nat):Int))).setCell ⟨b0+1,1,none⟩ (.int .i64 ((o.2.2:Nat):Int))).drew:=⟨_,rfl⟩
  have tm:=uh hX;have nb:b0≠b0+1:=by omega
  have nb2:b0+1≠b0:=by omega
  have AZ:Hid (aA X b0 26 [.slice none 0 0]):=by
   show aA _ _ _ _;rw[hX];exact(((Y0.set 0 (.slice none 0 0) (by simp)).other nb 0 (.int .i64 ((o.2.1:Nat):Int))).other nb 1 (.int .i64 ((o.2.2:Nat):Int))).later ⟨rfl,rfl,rfl,zE,fun _ _=>rfl⟩
  have Cm:Hid (aA X (b0+1) 28 [.int .i64 ((o.2.1:Nat):Int),.int .i64 ((o.2.2:Nat):Int)]):=by
   show aA _ _ _ _;rw[hX];exact(((Y1.other nb2 0 (.slice none 0 0)).set 0 (.int .i64 ((o.2.1:Nat):Int)) (by simp)).set 1 (.int .i64 ((o.2.2:Nat):Int)) (by simp)).later ⟨rfl,rfl,rfl,zE,fun _ _=>rfl⟩
  clear Y0 Y1 hX;go_region
  go_wp2;rw[← tm.out];refine bodyPost_ret (v:=.tuple #[.agg #[.slice none 0 0],.agg #[.int .i64 ((o.2.1:Nat):Int),.int .i64 ((o.2.2:Nat):Int)]]) (by simp[results,Tryz.results30,asAddr,run_loadVar_mid (P:=Tryz.prog) _ _ _ 26 [.slice none 0 0] _ AZ.out.at_ Tryz.underlying26 rfl (by kernel_rfl),run_loadVar_mid (P:=Tryz.prog) _ _ _ 28 [.int .i64 ((o.2.1:Nat):Int),.int .i64 ((o.2.2:Nat):Int)] _ Cm.out.at_ Tryz.underlying28 rfl (by kernel_rfl)]) rfl ?_;have hf:Frm (fun b=>b=b0∨b=b0+1) w4 X:=by
   rw[tm.out];exact(((lD _ _ _ _ (No rfl)).trans (lD _ _ _ _ (Xk rfl))).trans (lD _ _ _ _ (Xk rfl))).trans (Frm.bB ⟨rfl,rfl,rfl,zE,fun _ _=>rfl⟩)
  refine⟨[.slice none 0 0],[],rfl,by rw[AU.out];exact .emp _ _ _ rfl .nil,XL,(fun b hb=>by cases hb), ?_⟩;exact hf.below (fun b e=>by have:=kv.out;omega) (ae (ae lS.out jb.out) JM.out)
namespace RY
theorem oH {P:Program} {id:Nat} {Q:Exit→Act→World→Prop} {a0:Act} {w:World} {l:List Oper} (v:World) (hv:Bel v w)
  (V:Nat→Value→World→Prop) (hVm:∀ j u W W',Bel W W'→V j u W→V j u W')
  (K:World→Prop) (n fuel:Nat)
  (hm:P.follows .mixedOrders=true) (hasc:asc .any l.toArray=true) (hap:ek l=true) (eH:eN l a0.tmps.size=true)
  (hlen:l.length=n+1) (D:List Nat) (hD:(D.all fun d=>decide (d<n)&&waits l n d)=true)
  (hclo:((List.range n).all fun i=>(clo l fuel D).contains i)=true)
  (oS:Oper) (hS:l[n]? =some oS) (hSd:oS.dst.isSome=true)
  (km:((l.take n).all fun o=>o.dst.isSome)=true)
  (ij:∀ (i:Nat) (o:Oper),l[i]? =some o→i<n→∀ (a:Act) (W:World),Bel v W→(∀ k,ew l k=true→a.eval (.tmp k)=a0.eval (.tmp k))→
   (∀ (j:Nat) (o':Oper) (k:Nat),l[j]? =some o'→o'.dst=some k→(∃ e∈o.after,e.on=j∧Region.binds .any e=true)→j<n→V j (a.eval (.tmp k)) W)→
   (∃ u W',(execOp a.eval o).run P W=.ok (.value u) W'∧Bel W W'∧V i u W')∨
   (∃ f args,(execOp a.eval o).run P W=.ok (.enter f args) W∧Calls P f args W fun e W'=>∃ u,e=.returned u∧Bel W W'∧V i u W'))
  (hfin:∀ (a:Act) (W:World),Bel v W→(∀ k,ew l k=true→a.eval (.tmp k)=a0.eval (.tmp k))→
   (∀ (j:Nat) (o':Oper) (k:Nat),l[j]? =some o'→o'.dst=some k→(∃ e∈oS.after,e.on=j∧Region.binds .any e=true)→j<n→V j (a.eval (.tmp k)) W)→
   ∃ f args,(execOp a.eval oS).run P W=.ok (.enter f args) W∧Calls P f args W fun e W'=>∃ u,e=.returned u∧K W')
  (hend:∀ (vs:Nat→Value) (W:World),K W→Q .normal (aC l a0 vs) W):
  (Code.region id l.toArray true).wp P Q a0 w:=by
 rw[Xu]at hD;refine jt (fun _ _=>True) (fun up vals W=>(up n=false→Bel v W∧∀ j,j<n→up j=true→V j (vals j) W)∧(up n=true→K W)) hm hasc hap eH ?_ ?_ ?_
 ·intro vals;exact⟨fun _=>⟨XF hv,fun j _ h=>by simp at h⟩,fun h=>by simp at h⟩
 ·intro up vals i o ho hi fT a W hk gQ hT;have uL:i<n+1:=by rw[← hlen];exact(Xn.1 ho).1
  have oV:(∀ d∈D,up d=true)→∀ j,j<n→up j=true:=fun h j hj=>by
   rw[Xu]at hclo;have:=hclo j (by simp;omega);exact gV fT fuel D h j (by simpa using this)
  by_cases jr:up n=true
  ·exfalso;have bA:∀ j,j<n+1→up j=true:=fun j hj=>by
    by_cases e:j=n
    ·rw[e];exact jr
    ·exact oV (fun d hd=>by
      have h2:=hD d hd;rw[Xj,decide_eq_true_eq]at h2;obtain⟨e,he,nT,nU⟩:=bj h2.2 hS;rw[← nT];exact fT n oS e hS he nU jr) j (by omega)
   rw[bA i uL]at hi;cases hi
  ·have jr:up n=false:=by simpa using jr
   obtain⟨sS,hV⟩:=hT.1 jr;have fk:i<n→o.dst.isSome=true:=fun h=>by
    rw[Xu]at km;exact km _ (Xx (i:=i) (by rw[XM h];exact ho))
   by_cases iN:i<n
   ·have key:∀ u W',Bel W W'→V i u W'→((fun j=>(j==i)||up j) n=false→Bel v W'∧∀ j,j<n→(fun j=>(j==i)||up j) j=true→V j ((fun j=>if j=i then u else vals j) j) W')∧((fun j=>(j==i)||up j) n=true→K W'):=fun u W' hW mM=>by
     refine⟨fun _=>⟨ae sS hW,fun j hj hu=> ?_⟩,fun h=> ?_⟩
     ·by_cases e:j=i
      ·simp only[e,if_true];exact mM
      ·have hu:up j=true:=by simpa [e]using hu
       simp only[e,if_false];exact hVm _ _ _ _ hW (hV j hj hu)
     ·have:¬ n=i:=by omega
      have:up n=true:=by simpa [this]using h
      rw[jr]at this;cases this
    rcases ij i o ho iN a W sS hk (fun j o' k hj iP hd lR=>by
      obtain⟨q1,q2,_⟩:=gQ j o' k hj iP hd;rw[q2];exact hV j lR q1) with⟨u,W',hr,hW,mM⟩|⟨f,args,hr,hc⟩
    ·exact No ⟨u,W',hr,fk iN,trivial,key u W' hW mM⟩
    ·refine Xk (Xk ⟨f,args,hr,fk iN,hc.mono ?_⟩);rintro e W' ⟨u,rfl,hW,mM⟩;exact⟨u,rfl,trivial,key u W' hW mM⟩
   ·obtain rfl:i=n:=by omega
    rw[hS]at ho;injection ho with ho
    subst ho;obtain⟨f,args,hr,hc⟩:=hfin a W sS hk (fun j o' k hj iP hd lR=>by
     obtain⟨q1,q2,_⟩:=gQ j o' k hj iP hd;rw[q2];exact hV j lR q1)
    refine Xk (Xk ⟨f,args,hr,hSd,hc.mono ?_⟩);rintro e W' ⟨u,rfl,hK⟩;exact⟨u,rfl,trivial,fun h=>by simp at h,fun _=>hK⟩
 ·intro up vals vs W bA iH hT;exact hend vs W (hT.2 (bA n (by omega)))
end RY
theorem By.mks {W W':World} {S:Nat→Prop} {lo:Nat} {v:Value} {l:List UInt8} (h:By W lo v l) (hm:Marks S W W') (hn:∀ q,v.ownBlock=some q→¬ S q):By W' lo v l:=by
 refine⟨h.1, ?_⟩;rcases h.2 with q|⟨g,cap,cur,e,h1,h2,r⟩
 ·exact .inl q
 ·have hl:g<W.heap.size:=by
   by_cases q:g<W.heap.size
   ·exact q
   ·rw[XW (by omega)]at h2;cases h2
  exact .inr ⟨g,cap,cur,e,h1,(hm.block g hl (hn g (by rw[e];rfl))).trans h2,r⟩
abbrev dv:TypeId:=47
theorem Tryz.kM:Tryz.prog.underlying 42=some (.pointer 45):=by kernel_rfl
theorem Tryz.qB:Tryz.prog.underlying 113=some .unsafePointer:=by kernel_rfl
theorem Tryz.tM:Tryz.prog.underlying 82=some (.pointer 5):=by kernel_rfl
theorem Tryz.vN:(Tryz.prog.info? 45).map (·.size)=some 2:=by kernel_rfl
theorem Tryz.uW:liesAt Tryz.prog Tryz.prog.depth dv (2 / Tryz.prog.cellsOf dv) 0 45 1=true:=by kernel_rfl
theorem Tryz.qJ:Tryz.prog.cellsOf 5=1:=by kernel_rfl
theorem aA.shape {W:World} {p:Nat} {u:TypeId} {cs:List Value} (h:aA W p u cs):W.shape? p=some (u,cs.length):=by
 obtain⟨c,h1,h2⟩:=h.own;simp[World.shape?,h1,h2]
theorem aA.rN {W W':World} {row:Option Nat} {p:Nat} {u:TypeId} {cs:List Value} (h:aA W p u cs) (hg:W.grownBy W' row) (hn:row≠some p):aA W' p u cs:=by
 have hb:W'.heap[p]? =W.heap[p]? :=hg.block p h.own.lt (fun e=>hn e.symm);refine⟨?_,fF h.at_ fun j _=>Yg (a:=⟨p,0+j,none⟩) hb⟩;obtain⟨c,h1,h2⟩:=h.own;exact⟨c,hb.trans h1,h2⟩
theorem rB (b:Nat) (p v:Value) (w:World) (hp:p=.pointer none∨p=.pointer (some ⟨b,0,none⟩)) (h:aA w b dv [p,v]):
  Calls Tryz.prog 35 #[.pointer (some ⟨b,0,none⟩)] w fun e w'=>e=.returned (.tuple #[])∧aA w' b dv [.pointer (some ⟨b,0,none⟩),v]∧Marks (fun x=>x=b) w w':=by
 obtain⟨j,hj,hjs⟩:=XH.1 Tryz.vN;have hsh:w.shape? b=some (dv,2):=h.shape;have c0:=h.get 0 _ rfl;have hfz:=h.own.frozen 0;have bq:=h.own.lt;have HX:=uh h;rcases hp with hp|hp
 ·subst hp;have H2:Hid (aA (w.setCell ⟨b,0,none⟩ (.pointer (some ⟨b,0,none⟩))) b dv [.pointer (some ⟨b,0,none⟩),v]):=HX.out.set 0 _ (by simp);clear h;go_enter Tryz.func35,Tryz.ntmps35
  go_wp2;rw[Lib.run_to_unsafe w ⟨b,0,none⟩ Tryz.kM Tryz.qB hj (by rw[hjs];decide) hsh (Nat.zero_lt_succ 1)];simp only[Result.andThen];rw[YU];go_wp2;rw[run_callFunc_extern Tryz.func57 (by kernel_rfl) (by kernel_rfl) (by kernel_rfl) (e:=Extern.AbiNoEscape.same) (by kernel_rfl)];rw[Lib.run_noEscape];simp only[Result.andThen];rw[YU];go_wp2;rw[Lib.run_from_unsafe w ⟨b,0,none⟩ Tryz.qB Tryz.kM hj hsh Tryz.uW];simp only[Result.andThen];rw[YU];go_wp2;go_end0
  exact⟨rfl,H2.out,Marks.sc (S:=fun x=>x=b) w rfl 0 _⟩
 ·subst hp;clear h;go_enter Tryz.func35,Tryz.ntmps35
  go_wp2;rw[Lib.run_neq_ptr_same w _ Tryz.kM hj];go_wp2;go_end0
  exact⟨rfl,HX.out,Marks.refl _ _⟩
structure BW (B b:Nat) (l:List UInt8) (W:World):Prop where
 hB:B≤b
 ex:∃ p v,(p=.pointer none∨p=.pointer (some ⟨b,0,none⟩))∧aA W b dv [p,v]∧By W B v l∧(l=[]→v=.slice none 0 0)
structure KB (B b:Nat) (w w':World):Prop where
 bel:Below B w w'
 box:∀ k T cs,aA w k T cs→k≠b→T≠5→aA w' k T cs
theorem KB.trans {B b:Nat} {a c d:World} (h:KB B b a c) (k:KB B b c d):KB B b a d:=⟨h.bel.trans k.bel,fun q T cs hb h1 h2=>k.box q T cs (h.box q T cs hb h1 h2) h1 h2⟩
theorem KB.of {B b:Nat} {w w':World} (hB:B≤w.heap.size) (h:Bel w w'):KB B b w w':=
 ⟨⟨h.os,h.tape,h.output,h.size,fun k hk=>h.block k (by omega)⟩,fun _ _ _ hb _ _=>hb.later h⟩
theorem BW.later {B b:Nat} {l:List UInt8} {w w':World} (h:BW B b l w) (hb:Bel w w'):BW B b l w':=by
 obtain⟨p,v,h1,h2,h3,h4⟩:=h.ex;exact⟨h.hB,p,v,h1,h2.later hb,h3.later hb,h4⟩
theorem uj:dv≠5:=by decide
theorem og (B b:Nat) (l:List UInt8) (s:ByteArray) (w:World) (h:BW B b l w) (hBw:B≤w.heap.size) (dr:l.length+s.size≠0) (kZ:l.length+s.size≤1099511627776):
  Calls Tryz.prog 12 #[.pointer (some ⟨b,0,none⟩),.string s] w fun e w'=>e=.returned (.tuple #[.int .i64 (s.size:Nat),.nilIface])∧BW B b (l++s.data.toList) w'∧KB B b w w'∧B≤w'.heap.size:=by
 obtain⟨hB,p,v,hp,fL,eS,_⟩:=h;have HC:=uh (rB b p v w hp fL);have jk:=uh fL;have Pf:=uh eS;have Ju:Hid (l++s.data.toList≠ []):=fun e=>by
  have:=congrArg List.length e;rw[At,Pl.aD,XX]at this;omega
 clear fL eS hp dr;go_enter Tryz.func12,Tryz.ntmps12
 go_wp2_with fail
 refine HC.out.mono ?_;rintro e w1 ⟨rfl,wF,lO⟩;have p5:v.ownBlock≠some b:=Pf.out.ne jk.out uj;have Je:=uh wF;have pT:=uh lO;have wh:Hid (By w1 B v l):=Pf.out.mks lO (fun q hq e=>p5 (by rw[hq,e]));have cX:B≤w1.heap.size:=Xg hBw lO.size;have c1:=wF.get 1 _ rfl;have bq:=wF.own.lt;obtain⟨a1,k1,e1⟩:=Pf.out.shape;subst e1;clear wF lO HC;go_wp2_with (refine Fy rfl (.tmp 12) (.tmp 13) rfl B (.slice a1 l.length k1) l rfl wh.out s rfl kZ cX ?_;intro v' w2 AM pV;obtain⟨a2,k2,e2⟩:=AM.shape;rw[At,Pl.aD]at e2;subst e2;have Jj:=uh AM;have k6:=uh pV;have sy:=uh (Je.out.rN pV (wh.out.ne Je.out uj));have c2:=sy.out.get 1 _ rfl;have su:=sy.out.own.lt;have Ui:=sy.out.own.frozen 1;clear AM pV c1 bq)
 go_ret2;have tg:Marks (fun x=>x=b) w2 (w2.setCell ⟨b,1,none⟩ (.slice a2 (l.length+s.size) k2)):=Marks.sc (S:=fun x=>x=b) w2 rfl 1 _;have LM:=sy.out.set 1 (.slice a2 (l.length+s.size) k2) (by simp);refine⟨rfl,⟨hB,_,_,Xk rfl,LM,Jj.out.mks tg (fun q hq e=>Jj.out.ne sy.out uj (by rw[hq,e])),fun e=>absurd e Ju.out⟩,⟨?_,fun k T cs hk jP hT=> ?_⟩, ?_⟩
 ·have q1:Below B w w1:=⟨pT.out.os,pT.out.tape,pT.out.output,pT.out.size,fun k hk=>pT.out.block k (by omega) (by omega)⟩
  have q2:Below B w w2:=Below.grown q1 k6.out cX fun q hq=>by have:=(World.ownsRow.lt wh.out q hq).1;omega
  exact q2.setCell (p:=⟨b,1,none⟩) hB _
 ·have h1:=hk.mks pT.out jP;have h2:=h1.rN k6.out (wh.out.ne h1 hT);exact h2.mks tg jP
 ·exact Xg (Xg cX k6.out.size) tg.size
theorem QX (B b:Nat) (l:List UInt8) (w:World) (h:BW B b l w) (kZ:l.length≤1099511627776):
  Calls Tryz.prog 13 #[.pointer (some ⟨b,0,none⟩)] w fun e w'=>e=.returned (.string ⟨l.toArray⟩)∧Below B w w':=by
 obtain⟨hB,p,v,hp,fL,eS,h0⟩:=h;have bq:b<w.drew.heap.size:=fL.own.lt;by_cases hl:l=[]
 ·have hv:=h0 hl;subst hv;subst hl;have c1:w.drew.cell? ⟨b,1,none⟩=some (.slice none 0 0):=fL.get 1 _ rfl;have UY:(Builtin.unsafeSliceData_ #[43] 82 #[.slice none 0 0]).run Tryz.prog w.drew=.ok (.pointer none) w.drew:=Lib.run_unsafeSliceData_nil _ _ _ _ _;have U6:(Builtin.unsafeString_ #[82,3] 9 #[.pointer none,.int .i64 0]).run Tryz.prog w.drew=.ok (.string .empty) w.drew:=Lib.run_unsafeString_none _ _ _ _ _;have HB:Hid (Below B w w.drew):=XF zR;clear fL eS h0 hp;go_enter Tryz.func13,Tryz.ntmps13
  go_wp2;have mixed:Tryz.prog.follows .mixedOrders=true:=by kernel_rfl
  go_region_o
  all_goals (go_wp2;go_ret;exact⟨rfl,HB.out⟩)
 ·have wL:l.length≠0:=fun e=>hl (Xs e);obtain⟨g,cap,cur,rfl,UZ,hg,P2,uK,jn,yR⟩:∃ g cap cur,v=.slice (some ⟨g,0,none⟩) l.length cap∧B≤g∧w.heap[g]? =some (.cells cur 5 (0,0))∧l.length≤cap∧cap≤maxLen∧cur.size=cap*1∧cur.toList.take (l.length*1)=Pl.byV l:=by
   rcases eS.2 with⟨_,hz⟩|⟨g,cap,cur,hv,r⟩
   ·exact absurd hz wL
   ·exact⟨g,cap,cur,hv,r⟩
  have c1:w.drew.cell? ⟨b,1,none⟩=some (.slice (some ⟨g,0,none⟩) l.length cap):=fL.get 1 _ rfl;have UY:(Builtin.unsafeSliceData_ #[43] 82 #[.slice (some ⟨g,0,none⟩) l.length cap]).run Tryz.prog w.drew=.ok (.pointer (some ⟨g,0,none⟩)) w.drew:=Lib.run_unsafeSliceData_row _ _ _ _ _ _ (by omega);have U6:(Builtin.unsafeString_ #[82,3] 9 #[.pointer (some ⟨g,0,none⟩),.int .i64 l.length]).run Tryz.prog w.drew=.ok (.string ⟨l.toArray⟩) (w.drew.freeze ⟨g,0,none⟩ l.length):=by
   refine Lib.run_unsafeString_row w.drew 82 3 9 5 Tryz.tM Tryz.qJ g cur.size (by have yX:w.drew.heap[g]? =some (.cells cur 5 (0,0)):=hg;simp[World.shape?,yX]) l hl (by omega) (by omega) ?_;intro j x hx;have N7:(Pl.byV l)[j]? =some (.int .u8 (x.toNat:Int)):=by simp[Pl.byV,hx]
   have wH:j<l.length:=(Xn.1 hx).1;have q:cur.toList[j]? =some (.int .u8 (x.toNat:Int)):=by rw[← N7,← yR,XO,if_pos (by omega)]
   rw[show (Addr.add ⟨g,0,none⟩ j)=⟨g,j,none⟩ by rw[Addr.add_mid,Xr]];have yX:w.drew.heap[g]? =some (.cells cur 5 (0,0)):=hg;simp only[World.cell?,yX];simpa using q
  have HB:Hid (Below B w (w.drew.freeze ⟨g,0,none⟩ l.length)):=Lib.below_freeze (XF (Below.refl B w)) (p:=⟨g,0,none⟩) UZ _;clear fL eS h0 hp hg jn yR hl uK P2;go_enter Tryz.func13,Tryz.ntmps13
  go_wp2;have mixed:Tryz.prog.follows .mixedOrders=true:=by kernel_rfl
  go_region_o
  all_goals (go_wp2;go_ret;exact⟨rfl,HB.out⟩)
theorem Pl.GR:∀ l:List UInt8,l.all Pl.ck=true→l.takeWhile Pl.ck=l
 |[],_=>rfl
 |c::l,h=>by
  rw[YV,Xj]at h;rw[Yy,if_pos h.1,Pl.GR l h.2]
theorem Pl.Hd:∀ l:List UInt8,(l.takeWhile Pl.ck).all Pl.ck=true
 |[]=>rfl
 |c::l=>by
  rw[Yy];split
  ·rename_i h;rw[YV,h,Pl.Hd l];rfl
  ·rfl
theorem Pl.xr (s:ByteArray) (p:Nat) (hp:p≤s.size):(s.extract p s.size).toList.isEmpty=decide (p=s.size):=by
 rw[Pl.tl,Pl.j5,XB,List.isEmpty_iff,List.drop_eq_nil_iff,Pl.aD];simp;omega
theorem Pl.zj (l:List UInt8) (p:Nat) (hp:p≤l.length) (h:l.takeWhile Pl.ck=l.take p):Pl.pt l=(decide (0<l.length)&&decide (p=l.length)):=by
 unfold Pl.pt;congr 1;rw[XB,decide_eq_true_eq];constructor
 ·intro ha;rw[Pl.GR l ha]at h;have:=congrArg List.length h;rw[Xo]at this;omega
 ·intro e;subst e;rw[YG]at h;rw[← h];exact Pl.Hd l
theorem pQ (s:ByteArray) (w:World) (hs:s.size≤1048576):
  Calls Tryz.prog 109 #[.string s] w fun e w'=>e=.returned (.bool (Pl.pt s.data.toList))∧Bel w w':=by
 have hl:s.data.toList.length=s.size:=Pl.aD s;by_cases h1:1≤s.size
 ·have h0:=Pl.gK s h1;have HC:=uh (uq s w hs);go_enter Tryz.func109,Tryz.ntmps109
  go_wp2_with (go_at_call 130;refine HC.out.mono ?_;rintro e w' ⟨p,hp,ht,rfl,hb⟩)
  go_ret;refine⟨Pl.ar ?_,hb⟩;rw[Pl.zj _ p (by omega) ht,hl,Pl.xr s p hp,XB];simp;omega
 ·have h0:=Pl.gz s h1;go_enter Tryz.func109,Tryz.ntmps109
  go_wp2;go_ret;refine⟨Pl.ar ?_,zR⟩;have h2:s.size=0:=by omega
  unfold Pl.pt;rw[hl,h2];rfl
theorem QF:∀ n:Fin 256,bits BinOp.and IntKind.u8 (n.1:Int) 15=((n.1 % 16:Nat):Int):=by decide+kernel
def VIw (va:Value) (q r:Nat) (b:UInt8) (jj:Nat) (u:Value) (W:World):Prop:=match jj with
 |0=>u=va
 |1|4=>u=.int .u8 (b.toNat:Int)
 |2=>u=.int .u8 (q:Int)
 |3=>u=.int .u8 ((Pl.fu q).toNat:Int)
 |5=>u=.int .u8 (r:Int)
 |6=>u=.int .u8 ((Pl.fu r).toNat:Int)
 |7=>∃ B,u=.slice (some ⟨B,0,none⟩) 3 3∧W.heap[B]? =some (.cells #[.int .u8 92,.int .u8 ((Pl.fu q).toNat:Int),.int .u8 ((Pl.fu r).toNat:Int)] 5 (0,0))
 |_=>True
theorem H6 (va:Value) (q r:Nat) (b:UInt8):∀ j u W W',Bel W W'→VIw va q r b j u W→VIw va q r b j u W':=by
 intro j u W W' hb h;match j with
 |0|1|2|3|4|5|6=>exact h
 |7=>
  obtain⟨B,e,hB⟩:=h;exact⟨B,e,(hb.block B (Xh.1 hB).1).trans hB⟩
 |n+8=>exact trivial
theorem pR (v:Value) (L:List UInt8) (b:UInt8) (lo:Nat) (w:World) (hO:By w lo v L) (cX:lo≤w.heap.size) (hL:L.length≤4194304):
  Calls Tryz.prog 110 #[v,.int .u8 b.toNat] w fun e w'=>∃ g cap,e=.returned (.slice (some ⟨g,0,none⟩) (L++Pl.fU b).length cap)∧By w' lo (.slice (some ⟨g,0,none⟩) (L++Pl.fU b).length cap) (L++Pl.fU b)∧∀ a:World,Bel a w→a.heap.size≤lo→Bel a w':=by
 obtain⟨sa,sc,hv⟩:=hO.shape;subst hv;have HO:=uh hO;clear hO;have HC:=uh (jd b w);cases hsf:Pl.gl b
 ·have HE:Hid (Pl.fU b=[92,Pl.fu (b.toNat / 16),Pl.fu (b.toNat % 16)]):=by show _=_;rw[Pl.fU,hsf];rfl
  rw[hsf]at HC;clear hsf;have uN:=Pl.yB b;obtain⟨q,hq⟩:∃ q,q=b.toNat / 16:=⟨_,rfl⟩
  obtain⟨r,hr⟩:∃ r,r=b.toNat % 16:=⟨_,rfl⟩
  rw[← hq,← hr]at HE;have kg:Hid (∀ w,_):=fun w=>vO q (by omega) w;have jb:Hid (∀ w,_):=fun w=>vO r (by omega) w;have Xe:Hid ((b.toNat:Int) / 16=(q:Int)):=by show _=_;omega
  have sQ:Hid (bits BinOp.and IntKind.u8 (b.toNat:Int) 15=(r:Int)):=by
   show _=_;have:=QF ⟨b.toNat,uN⟩;rw[hr];exact this
  clear hq hr;go_enter Tryz.func110,Tryz.ntmps110
  go_upto_region 3 with(go_at_call 131;refine HC.out.mono ?_;rintro e w' ⟨rfl,rfl⟩)
  refine RY.me w zR (VIw (.slice sa L.length sc) q r b) (H6 _ _ _ _) (fun u W'=>∃ g cap,u=.slice (some ⟨g,0,none⟩) (L.length+3) cap∧By W' lo u (L++[92,Pl.fu q,Pl.fu r])∧∀ a:World,Bel a w→a.heap.size≤lo→Bel a W') 8 12 19 4 (by kernel_rfl) (by kernel_rfl) (by kernel_rfl) (by kernel_rfl) (by kernel_rfl) rfl (by kernel_rfl) _ _ rfl rfl rfl rfl rfl (by kernel_rfl) ?_ ?_ ?_
  ·intro i o' ho iN a X hX hk hd;match i,ho with
   |0,rfl=>
    have e0:a.tmps[0]?.getD undef=.slice sa L.length sc:=(RY.ai a 0).trans ((hk 0 (RY.aS (by kernel_rfl))).trans rfl);exact⟨.slice sa L.length sc,X,by simp[execOp,go_sem,e0],zR,rfl⟩
   |1,rfl|4,rfl=>
    have e1:a.tmps[1]?.getD undef=.int .u8 (b.toNat:Int):=(RY.ai a 1).trans ((hk 1 (RY.aS (by kernel_rfl))).trans rfl);exact⟨.int .u8 (b.toNat:Int),X,by simp[execOp,go_sem,e1],zR,rfl⟩
   |2,rfl=>
    exact⟨.int .u8 (q:Int),X,by simp[execOp,go_sem,RY.E1 hd 1 12,Xe.out],zR,rfl⟩
   |3,rfl=>
    exact⟨.int .u8 ((Pl.fu q).toNat:Int),X,by simp[execOp,go_sem,RY.E1 hd 2 13,kg.out X],zR,rfl⟩
   |5,rfl=>
    exact⟨.int .u8 (r:Int),X,by simp[execOp,go_sem,RY.E1 hd 4 15,sQ.out],zR,rfl⟩
   |6,rfl=>
    exact⟨.int .u8 ((Pl.fu r).toNat:Int),X,by simp[execOp,go_sem,RY.E1 hd 5 16,jb.out X],zR,rfl⟩
   |7,rfl=>
    have e14:=(RY.ai a 14).trans (hd 3 _ 14 rfl rfl ⟨⟨3,.data⟩,by simp,rfl,rfl⟩ (by decide));have e17:=(RY.ai a 17).trans (hd 6 _ 17 rfl rfl ⟨⟨6,.data⟩,by simp,rfl,rfl⟩ (by decide));exact⟨.slice (some ⟨X.heap.size,0,none⟩) 3 3,X.alloc (.cells #[.int .u8 92,.int .u8 ((Pl.fu q).toNat:Int),.int .u8 ((Pl.fu r).toNat:Int)] 5),by simp[execOp,go_sem,e14,e17],af zR _,X.heap.size,rfl,heap_alloc_new X _⟩
   |n+8,ho=>omega
  ·intro a X hX hk hd;have e11:=hd 0 _ 11 rfl rfl ⟨⟨0,.data⟩,by simp,rfl,rfl⟩ (by decide);obtain⟨B,e18,hB⟩:=hd 7 _ 18 rfl rfl ⟨⟨7,.data⟩,by simp,rfl,rfl⟩ (by decide);have ME:=HO.out.later hX;obtain⟨g,cap,X',hr,cr,dD⟩:=zn ME 43 B 3 3 [92,Pl.fu q,Pl.fu r] rfl _ rfl hB (by decide) (by omega) (Xg cX hX.size);exact⟨_,X',aQ (.tmp 11) (.tmp 18) 43 rfl e11 e18 hr,g,cap,rfl,cr,fun a ha hla=>ME.below (ae ha hX) dD hla⟩
  ·rintro vals X hK e2;simp only[RY.aC,Act.put,so,As,An];rw[e2];generalize vals 11=s11;generalize vals 12=s12;generalize vals 13=s13;generalize vals 14=s14;generalize vals 15=s15;generalize vals 16=s16;generalize vals 17=s17;generalize vals 18=s18;obtain⟨g,cap,e1,hg,hb⟩:=hK;rw[e1]at hg ⊢;have HN:=uh (Xt hg hb);clear hg hb e1 e2 HO;go_wp2;go_ret;rw[HE.out];exact⟨g,cap,by simp,by simpa using HN.out.1,HN.out.2⟩
 ·have HE:Hid (Pl.fU b=[b]):=by show _=_;rw[Pl.fU,hsf];rfl
  rw[hsf]at HC;clear hsf;go_enter Tryz.func110,Tryz.ntmps110
  go_wp2_with (first|(go_at_call 131;refine HC.out.mono ?_;rintro e w' ⟨rfl,rfl⟩)|(refine lx rfl _ _ rfl lo (.slice sa L.length sc) L rfl (HO.out.later (af zR _)) w.heap.size 1 1 [b] rfl rfl (World.news_of_block (cs:=#[.int .u8 (b.toNat:Int)]) (heap_alloc_new w _)) (by decide) (by omega) (by simp;omega) ?_;intro g1 c1 w1 q1 q2))
  go_ret;rw[HE.out];exact⟨g1,c1,by simp,by simpa using q1,fun a ha hla=>(HO.out.later (af zR _)).below (af ha _) q2 hla⟩
theorem zx (s:ByteArray) (w:World) (hs:s.size≤1048576):
  Calls Tryz.prog 81 #[.string s] w fun e w'=>e=.returned (.string (Pl.cK s))∧Bel w w':=by
 have hl:s.data.toList.length=s.size:=Pl.aD s;have HL:=uh hl;clear hl;have HC:=uh (pQ s w hs);cases jo:Pl.pt s.data.toList
 rotate_left
 ·rw[jo]at HC;have HW:Hid (s=Pl.cK s):=by show _=_;rw[Pl.cK,Pl.jC,if_pos jo,Pl.back]
  clear jo;go_enter Tryz.func81,Tryz.ntmps81
  go_wp2_with (go_at_call 109;refine HC.out.mono ?_;rintro e w' ⟨rfl,hb⟩)
  go_ret;exact⟨Pl.nH HW.out,hb⟩
 rw[jo]at HC;have HE:=uh jo;clear jo;go_enter Tryz.func81,Tryz.ntmps81
 go_wp2_with (go_at_call 109;refine HC.out.mono ?_;rintro e w1 ⟨rfl,hb⟩)
 go_loopw [3,11] (fun v i wr=>∃ k:Nat,k≤s.size∧i=.int .i64 k∧By wr w.heap.size v (34::(s.data.toList.take k).flatMap Pl.fU)∧Bel w wr) (fun _ i _=>s.size - (intOf i).toNat)
 case atStart=>exact⟨0,zN,rfl,By.made w1 w.heap.size 34 hb.size,af hb _⟩
 case round=>
  obtain⟨k,hk,rfl,hO,hW⟩:=hrel;have hle:((s.data.toList.take k).flatMap Pl.fU).length≤3*k:=by
   have:=Pl.p8 (s.data.toList.take k);rw[Xo]at this;omega
  by_cases bq:k<s.size
  ·have HS:Hid (34::(s.data.toList.take (k+1)).flatMap Pl.fU=(34::(s.data.toList.take k).flatMap Pl.fU)++Pl.fU s[k]):=by
    show _=_;rw[Pl.lr s k bq];simp
   obtain⟨L,hL⟩:∃ L,L=34::(s.data.toList.take k).flatMap Pl.fU:=⟨_,rfl⟩
   have sK:L.length≤3*k+1:=by rw[hL,Xm];omega
   rw[← hL]at HS hO;have HB:=uh (pR _ L s[k] w.heap.size wr hO hW.size (by omega));clear hL hle sK HL HE HC hb;have HW:=uh hW;obtain⟨sa,sc,hv⟩:=hO.shape;subst hv;clear hO hW;go_wp2_with (go_at_call 110;refine HB.out.mono ?_;rintro e w2 ⟨g,cap,rfl,h1,h2⟩)
   go_roundw
   case rel=>exact⟨k+1,by omega,by go_num,by rw[HS.out];rw[At]at h1;exact h1,h2 w HW.out zE⟩
   case measure=>simp[intOf];omega
  ·obtain rfl:k=s.size:=by omega
   have R3:s.data.toList.take s.size=s.data.toList:=Xp (by rw[HL.out];exact zE);rw[R3]at hO hle;obtain⟨L,hL⟩:∃ L,L=34::s.data.toList.flatMap Pl.fU:=⟨_,rfl⟩
   have iS:Hid ((⟨(L++[34]).toArray⟩:ByteArray)=Pl.cK s):=by
    show _=_;rw[Pl.cK,Pl.jC,if_neg (by rw[HE.out];decide),hL];rfl
   have sK:L.length≤3*s.size+1:=by rw[hL,Xm];omega
   rw[← hL]at hO;clear hL hle R3;have kB:=uh sK;have HO:=uh hO;have HW:=uh hW;obtain⟨sa,sc,hv⟩:=hO.shape;subst hv;clear hO hW sK bq HL HE HC hb;go_wp2_with (refine lx rfl _ _ rfl w.heap.size (.slice sa L.length sc) L rfl (HO.out.later (af zR _)) wr.heap.size 1 1 [34] rfl rfl (World.news_of_block (cs:=#[.int .u8 34]) (heap_alloc_new wr _)) (by decide) (by have:=kB.out;omega) (by have:=HW.out.size;simp;omega) ?_;intro g1 c1 w2 q1 q2;have Tl:=q1.str (by simp);have HQ:=uh (Xt q1 q2);clear q1 q2)
   go_ret;exact⟨Pl.nH iS.out,(HO.out.later (af zR _)).below (af HW.out _) HQ.out.2 zE⟩
def VLa (b:Nat) (bl:Nat) (x:Pl.Ln):Nat→Value→World→Prop
 |0,vv,_|1,vv,_|2,vv,_=>vv=.pointer (some ⟨b,0,none⟩)
 |3,vv,_=>vv=.pointer (some ⟨bl,0,none⟩)
 |4,vv,_=>vv=.string x.key
 |_,_,_=>True
theorem GQ (b:Nat) (bl:Nat) (x:Pl.Ln):∀ jj vv W W',Bel W W'→VLa b bl x jj vv W→VLa b bl x jj vv W':=by
 intro jj vv W W' hb h;match jj with
 |0|1|2|3|4=>exact h
 |n+5=>exact trivial
def VLb (b:Nat) (y:ByteArray) (z:ByteArray):Nat→Value→World→Prop
 |0,vv,_|1,vv,_|2,vv,_=>vv=.pointer (some ⟨b,0,none⟩)
 |3,vv,_=>vv=.string y
 |4,vv,_=>vv=.string (Pl.cK y)
 |5,vv,_=>vv=.string z
 |_,_,_=>True
theorem Hx (b:Nat) (y:ByteArray) (z:ByteArray):∀ jj vv W W',Bel W W'→VLb b y z jj vv W→VLb b y z jj vv W':=by
 intro jj vv W W' hb h;match jj with
 |0|1|2|3|4|5=>exact h
 |n+6=>exact trivial
theorem L5 (w0 w:World) (b:Nat) (l:List UInt8) (x:Pl.Ln) (a1:Option Addr) (c1:Nat) (aU:Bel w0 w) (hA:Raw w0 bm [.row x.ws.length (txD x.ws)] [.slice a1 x.ws.length c1]) (hbw0:BW w0.heap.size b l w) (jo:b<w.heap.size) (dr:l.length≠0) (kZ:l.length≤1099411627776) (JC:Pl.wln x≤1048576):
  Calls Tryz.prog 56 #[.pointer (some ⟨b,0,none⟩),.agg #[.string x.key,.slice a1 x.ws.length c1]] w fun e w'=>e=.returned (.tuple #[])∧BW w0.heap.size b (l++Pl.gp x) w'∧KB w0.heap.size b w w'∧w0.heap.size≤w'.heap.size:=by
 have dX:=uh aU;have HA:=uh hA;have Ju:=uh dr;have jQ:=uh (Xt (show l.length+x.key.size≤1099511627776 by unfold Pl.wln at JC;omega) JC);have hlL:=kZ;obtain⟨wa,aP⟩:∃ wa,wa=w.alloc (.cells #[.string x.key,.slice a1 x.ws.length c1] 41):=⟨_,rfl⟩
 obtain⟨bl,OD⟩:∃ bl,bl=w.heap.size:=⟨_,rfl⟩
 have D4:Hid (Bel w wa):=by show Below _ _ _;rw[aP];exact af zR _
 have tq:Hid (aA wa bl 41 [.string x.key,.slice a1 x.ws.length c1]):=by show aA _ _ _ _;rw[aP,OD];exact aA.new w [.string x.key,.slice a1 x.ws.length c1] 41 _ rfl
 have mP:Hid (w0.heap.size≤wa.heap.size):=Xg aU.size D4.out.size;have Iq:Hid (KB w0.heap.size b w wa):=KB.of aU.size D4.out;have kv:=uh (hbw0.later D4.out);have kt:Hid (bl≠b):=by show _≠_;omega
 clear aU hA hbw0 jo dr JC;go_enter Tryz.func56,Tryz.ntmps56
 go_upto_region 1 with fail
 rw[← aP,← OD];clear aP OD;refine RY.oH wa zR (VLa b bl x) (GQ _ _ _) ((fun X=>BW w0.heap.size b (l++x.key.data.toList) X∧KB w0.heap.size b w X∧w0.heap.size≤X.heap.size∧aA X bl 41 [.string x.key,.slice a1 x.ws.length c1])) 5 12 (by kernel_rfl) (by kernel_rfl) (by kernel_rfl) (by kernel_rfl) rfl [2,4] (by kernel_rfl) (by kernel_rfl) _ rfl rfl (by kernel_rfl) ?_ ?_ ?_
 ·intro ii o' ho wJ a X hX hk hd;have zbl:=tq.out.later hX;have zbll:=zbl.own.lt;match ii,ho with
  |0,rfl=>
   exact RY.p (.pointer (some ⟨b,0,none⟩)) (by simp[execOp,go_sem,RY.K hk 0 (.pointer (some ⟨b,0,none⟩))])
  |1,rfl=>
   exact RY.p (.pointer (some ⟨b,0,none⟩)) (by simp[execOp,go_sem,RY.E1 hd 0 6])
  |2,rfl=>
   exact RY.p (.pointer (some ⟨b,0,none⟩)) (by simp[execOp,go_sem,RY.E1 hd 1 7])
  |3,rfl=>
   exact RY.p (.pointer (some ⟨bl,0,none⟩)) (by simp[execOp,go_sem,RY.K hk 3 (.pointer (some ⟨bl,0,none⟩))])
  |4,rfl=>
   have e9:=RY.E1 hd 3 9;have ycl_:=zbl.get 0 _ rfl;exact RY.p (.string x.key) (by simp[execOp,go_sem,e9,ycl_])
  |n+5,ho=>omega
 ·intro a X hX hk hd;have e8:=RY.E1 hd 2 8;have e10:=RY.E1 hd 4 10;refine⟨12,#[.pointer (some ⟨b,0,none⟩),.string x.key],by simp[go_sem,e8,e10],(og w0.heap.size b l x.key X (kv.out.later hX) (Xg mP.out hX.size) (by have:=Ju.out;omega) (by have:=jQ.out.1;omega)).mono ?_⟩;rintro e W' ⟨rfl,jh,jP,cX⟩;exact⟨_,rfl,jh,Iq.out.trans ((KB.of mP.out hX).trans jP),cX,jP.box _ _ _ (tq.out.later hX) kt.out (by decide)⟩
 ·intro vs X hK;simp only[RY.aC,Act.put,so,As,An];generalize vs 6=s6,vs 7=s7,vs 8=s8,vs 9=s9,vs 10=s10,vs 11=s11;obtain⟨jh,jP,cX,VF⟩:=hK;have It:=uh jh;have AX:=uh jP;have IS:=uh cX;clear jh jP cX;have R8:=uh VF;have x1:=R8.out.get 1 _ rfl;have xl1:=R8.out.own.lt;go_wp2_with fail
  go_loopw [15] (fun vi wr=>∃ k:Nat,k≤x.ws.length∧vi=.int .i64 k∧BW w0.heap.size b (l++x.key.data.toList++Pl.gn (x.ws.take k)) wr∧KB w0.heap.size b w wr∧w0.heap.size≤wr.heap.size) (fun vi _=>x.ws.length - (intOf vi).toNat)
  case atStart=>exact⟨0,zN,rfl,by simpa [Pl.gn]using It.out,AX.out,IS.out⟩
  case round=>
   obtain⟨k,hk,rfl,jh,jP,cX⟩:=hrel;have sB:=uh jh;have o9:=uh jP;have vV:=uh cX;clear jh jP cX x1 xl1;by_cases bq:k<x.ws.length
   rotate_left
   ·obtain rfl:k=x.ws.length:=by omega
    have HE:Hid (BW w0.heap.size b (l++Pl.gp x) wr):=by
     show BW _ _ _ _;have q:=sB.out;rw[YG,XG]at q;exact q
    go_wp2;go_end0
    exact⟨rfl,HE.out,o9.out,vV.out⟩
   have sJ:Bel w0 wr:=dX.out.trans o9.out.bel;rcases dK (HA.out.later sJ) with⟨e0,_⟩|⟨p,o,c,hv,hp,dR,hc⟩
   ·omega
   injection hv with g1 _ g3
   subst g1;subst g3;unfold maxLen at dR;have y1:=hc k bq;have RJ:(x.ws.getD k Pl.aJ).size≤1048576:=by
    have e:x.ws.getD k Pl.aJ=x.ws[k]:=by simp[bq]
    have:=Pl.mi (fun w:ByteArray=>w.size+1) x.ws _ (Xq bq);have:=jQ.out.2;unfold Pl.wln Pl.wtx at this;rw[e];omega
   have HN:Hid (Pl.gn (x.ws.take (k+1))=Pl.gn (x.ws.take k)++(32::Pl.jC (x.ws.getD k Pl.aJ).data.toList)):=by
    show _=_;rw[Pl.cp Pl.aJ x.ws k bq];simp[Pl.gn]
   have R2:Hid ((l++x.key.data.toList++Pl.gn (x.ws.take k)).length≤l.length+4194304):=by
    show _≤_;rw[At,At,Pl.aD];have h1:=Pl.lg (x.ws.take k);have h2:=Pl.kI (fun w:ByteArray=>w.size+1) x.ws k;have h3:=jQ.out.2;unfold Pl.wtx at h1;unfold Pl.wln Pl.wtx at h3;omega
   obtain⟨y,hy⟩:∃ y,y=x.ws.getD k Pl.aJ:=⟨_,rfl⟩
   rw[← hy]at y1 RJ HN;have cZ:(0:Int)≤(k:Int):=by omega
   have dy:(k:Int)<(x.ws.length:Int):=by omega
   have hws:(Pl.cK y).size≤3*1048576+2:=by
    have e:(Pl.cK y).size=(Pl.jC y.data.toList).length:=by simp[Pl.cK,ByteArray.size]
    have:=Pl.oD y.data.toList;rw[Pl.aD]at this;omega
   have pc:¬ (9223372036854775807<1+(Pl.cK y).size):=by omega
   have l4:=uh hws;obtain⟨z,hz⟩:∃ z,({data:=#[32]}++Pl.cK y)=z:=⟨_,rfl⟩
   have HZE:Hid (z.data.toList=32::Pl.jC y.data.toList):=by show _=_;rw[← hz];simp[ByteArray.data_append,Pl.cK]
   have Q5:Hid (z.size=1+(Pl.cK y).size):=by show _=_;rw[← hz,XU];rfl
   obtain⟨LK,Jk⟩:∃ LK,LK=l++x.key.data.toList++Pl.gn (x.ws.take k):=⟨_,rfl⟩
   have yV:=uh Jk;rw[← Jk]at R2 sB;have wI:=uh (fun X (hX:Bel wr X)=>og w0.heap.size b LK z X (sB.out.later hX) (Xg vV.out hX.size) (by rw[Q5.out];omega) (by rw[Q5.out];have:=R2.out;have:=l4.out;omega));clear hc hy sJ hws Jk;go_upto_region 5 with fail
   refine RY.oH wr zR (VLb b y z) (Hx _ _ _) ((fun X=>BW w0.heap.size b (l++x.key.data.toList++Pl.gn (x.ws.take (k+1))) X∧KB w0.heap.size b w X∧w0.heap.size≤X.heap.size)) 6 12 (by kernel_rfl) (by kernel_rfl) (by kernel_rfl) (by kernel_rfl) rfl [2,5] (by kernel_rfl) (by kernel_rfl) _ rfl rfl (by kernel_rfl) ?_ ?_ ?_
   ·intro ii o' ho wJ a X hX hk hd;match ii,ho with
    |0,rfl=>
     exact RY.p (.pointer (some ⟨b,0,none⟩)) (by simp[execOp,go_sem,RY.K hk 0 (.pointer (some ⟨b,0,none⟩))])
    |1,rfl=>
     exact RY.p (.pointer (some ⟨b,0,none⟩)) (by simp[execOp,go_sem,RY.E1 hd 0 19])
    |2,rfl=>
     exact RY.p (.pointer (some ⟨b,0,none⟩)) (by simp[execOp,go_sem,RY.E1 hd 1 20])
    |3,rfl=>
     exact RY.p (.string y) (by simp[execOp,go_sem,RY.K hk 5 (.string y)])
    |4,rfl=>
     have e22:=RY.E1 hd 3 22;refine Xk ⟨81,#[.string y],by simp[go_sem,e22],(zx y X RJ).mono ?_⟩;rintro e W' ⟨rfl,hb⟩;exact⟨_,rfl,hb,rfl⟩
    |5,rfl=>
     exact RY.p (.string z) (by simp[execOp,go_sem,RY.E1 hd 4 23,pc,hz])
    |n+6,ho=>omega
   ·intro a X hX hk hd;have e21:=RY.E1 hd 2 21;have e24:=RY.E1 hd 5 24;refine⟨12,#[.pointer (some ⟨b,0,none⟩),.string z],by simp[go_sem,e21,e24],(wI.out X hX).mono ?_⟩;rintro e W' ⟨rfl,jh,jP,cX⟩;refine⟨_,rfl, ?_,o9.out.trans ((KB.of vV.out hX).trans jP),cX⟩;rw[HN.out];rw[HZE.out,yV.out,XG _ (Pl.gn (List.take k x.ws))]at jh;exact jh
   ·intro vs X hK;simp only[RY.aC,Act.put,so,As,An];generalize vs 19=s19,vs 20=s20,vs 21=s21,vs 22=s22,vs 23=s23,vs 24=s24,vs 25=s25;obtain⟨jh,jP,cX⟩:=hK;have VY:=uh jh;have Jc:=uh jP;have VK:=uh cX;clear jh jP cX;clear hz;go_wp2;go_roundw
    case rel=>exact⟨k+1,by omega,by go_num,VY.out,Jc.out,VK.out⟩
    case measure=>simp[intOf];omega
namespace Pl
end Pl
def VJh (b0:Nat) (wn:Nat) (ch:Pl.Ch) (sg:ByteArray):Nat→Value→World→Prop
 |0,vv,_=>vv=.pointer (some ⟨(b0+2),0,none⟩)
 |1,vv,_=>vv=.pointer (some ⟨b0,0,none⟩)
 |2,vv,_=>vv=.int .i64 (wn:Int)
 |3,vv,_=>vv=.pointer (some ⟨(b0+1),wn,none⟩)
 |4,vv,_=>vv=.string sg
 |5,vv,_=>vv=.string (sg++(⟨#[32]⟩:ByteArray))
 |6,vv,_=>vv=.pointer (some ⟨b0,1,none⟩)
 |7,vv,_=>vv=.string ch.kind
 |8,vv,_=>vv=.string (sg++(⟨#[32]⟩:ByteArray)++ch.kind)
 |9,vv,_=>vv=.string (sg++(⟨#[32]⟩:ByteArray)++ch.kind++(⟨#[32]⟩:ByteArray))
 |10,vv,_=>vv=.pointer (some ⟨b0,2,none⟩)
 |11,vv,_=>vv=.string ch.name
 |12,vv,_=>vv=.string (sg++(⟨#[32]⟩:ByteArray)++ch.kind++(⟨#[32]⟩:ByteArray)++ch.name)
 |_,_,_=>True
theorem G6 (b0:Nat) (wn:Nat) (ch:Pl.Ch) (sg:ByteArray):∀ jj vv W W',Bel W W'→VJh b0 wn ch sg jj vv W→VJh b0 wn ch sg jj vv W':=by
 intro jj vv W W' hb h;match jj with
 |0|1|2|3|4|5|6|7|8|9|10|11|12=>exact h
 |n+13=>exact trivial
namespace Pl
def sY (k:Nat):ByteArray:=if k=0 then ⟨#[58,32]⟩ else ⟨#[44,32]⟩
theorem EE (k:Nat):vE k=(sY k).data.toList:=by unfold vE sY;split<;>rfl
theorem BN (k:Nat):(sY k).size=2:=by unfold sY;split<;>rfl
end Pl
theorem xA (ch:Pl.Ch) (la:Option Addr) (lc:Nat) (w:World) (B7:Pl.SmC ch) (hl:Raw w aV [bD ch.lines] [.slice la ch.lines.length lc]):
  Calls Tryz.prog 34 #[.agg #[.int .i64 ch.what,.string ch.kind,.string ch.name,.string ch.key,.slice la ch.lines.length lc]] w fun e w'=>e=.returned (.string ⟨(Pl.hdT ch++Pl.unT ch++Pl.ej ch.lines ch.lines.length).toArray⟩)∧Bel w w':=by
 have wA:=uh B7;have jm:=uh hl;clear hl;obtain⟨R0,Vs⟩:∃ R:ByteArray,R=⟨(Pl.hdT ch++Pl.unT ch++Pl.ej ch.lines ch.lines.length).toArray⟩:=⟨_,rfl⟩
 rw[← Vs];obtain⟨wn,zg⟩:∃ n:Nat,ch.what=(n:Int):=⟨ch.what.toNat,by have:=B7.w1;omega⟩
 have gB:1≤wn:=by have:=B7.w1;omega
 have p4:wn≤4:=by have:=B7.w4;omega
 have hkd:=B7.kd;have uS:=B7.nm;have PY:=B7.ky;have yS:=B7.ln;obtain⟨n,hn⟩:∃ n,n=ch.lines.length:=⟨_,rfl⟩
 have HN:=uh hn;obtain⟨b0,aU⟩:∃ b,b=w.heap.size:=⟨_,rfl⟩
 obtain⟨sg,Lf⟩:∃ s,s=Pl.lU.getD wn ⟨#[]⟩:=⟨_,rfl⟩
 have kj:sg.size≤1:=by
  have:=Pl.rV (wn:Int);unfold Pl.uF at this;rw[Int.toNat_natCast]at this;rw[Lf];exact this
 obtain⟨wa,aP⟩:∃ wa,wa=((w.alloc (.cells #[.int .i64 (wn:Int),.string ch.kind,.string ch.name,.string ch.key,.slice la ch.lines.length lc] 37)).alloc (.cells #[.string {data:=#[]},.string {data:=#[45]},.string {data:=#[43]},.string {data:=#[126]},.string {data:=#[126]}] 111)).alloc (.cells #[.pointer none,.slice none 0 0] dv):=⟨_,rfl⟩
 have Ph:Hid (w.heap.size≤wa.heap.size):=by show _≤_;rw[aP];simp;omega
 have HB:Hid (Bel w wa):=by show Below _ _ _;rw[aP];exact af (af (af zR _) _) _
 have wG:Hid (aA wa b0 37 [.int .i64 (wn:Int),.string ch.kind,.string ch.name,.string ch.key,.slice la ch.lines.length lc]):=by show aA _ _ _ _;rw[aP,aU];exact(aA.new w [.int .i64 (wn:Int),.string ch.kind,.string ch.name,.string ch.key,.slice la ch.lines.length lc] 37 _ rfl).later (af (af zR _) _)
 have HX:Hid (au wa b0 [.int .i64 (wn:Int),.string ch.kind,.string ch.name,.string ch.key,.slice la ch.lines.length lc]):=⟨wG.out.own.lt,wG.out.at_⟩
 have D1:Hid (wa.cell? ⟨b0+1,wn,none⟩=some (.string sg)∧b0+1<wa.heap.size):=by
  refine⟨?_,by rw[aP,aU];simp⟩;rw[aP];have e:((w.alloc (.cells #[.int .i64 (wn:Int),.string ch.kind,.string ch.name,.string ch.key,.slice la ch.lines.length lc] 37)).alloc (.cells #[.string {data:=#[]},.string {data:=#[45]},.string {data:=#[43]},.string {data:=#[126]},.string {data:=#[126]}] 111)).cell? ⟨b0+1,wn,none⟩=some (.string sg):=by
   refine(World.cell?_alloc_at _ _ _ _ (by simp[aU])).trans ?_;have h5:wn<Pl.lU.length:=by show wn<5;omega
   have e2:(#[.string {data:=#[]},.string {data:=#[45]},.string {data:=#[43]},.string {data:=#[126]},.string {data:=#[126]}]:Array Value)=(Pl.lU.map Value.string).toArray:=rfl;rw[e2,Lf];simp[h5]
  have jo:Below ((w.alloc (.cells #[.int .i64 (wn:Int),.string ch.kind,.string ch.name,.string ch.key,.slice la ch.lines.length lc] 37)).alloc (.cells #[.string {data:=#[]},.string {data:=#[45]},.string {data:=#[43]},.string {data:=#[126]},.string {data:=#[126]}] 111)).heap.size _ _:=af (Below.refl ((w.alloc (.cells #[.int .i64 (wn:Int),.string ch.kind,.string ch.name,.string ch.key,.slice la ch.lines.length lc] 37)).alloc (.cells #[.string {data:=#[]},.string {data:=#[45]},.string {data:=#[43]},.string {data:=#[126]},.string {data:=#[126]}] 111)).heap.size _) (.cells #[.pointer none,.slice none 0 0] dv);exact(jo.cell (p:=⟨b0+1,wn,none⟩) (by simp[aU])).trans e
 have l4:Hid (wa.heap.size=b0+3∧b0=w.heap.size):=⟨by rw[aP,aU];simp,aU⟩
 have Uz:Hid (BW w.heap.size (b0+2) [] wa):=by
  refine⟨by omega,_,_,No rfl, ?_,By.nil _ _,fun _=>rfl⟩;rw[aP];exact aA.new _ [.pointer none,.slice none 0 0] dv _ (by simp[aU])
 have V4:Hid (([]:List UInt8)++(sg++(⟨#[32]⟩:ByteArray)++ch.kind++(⟨#[32]⟩:ByteArray)++ch.name).data.toList=Pl.hdT ch):=by
  show _=_;unfold Pl.hdT Pl.uF;rw[zg,Int.toNat_natCast,← Lf,Yn];simp only[XK,Array.toList_append]
 have HUN:Hid (Pl.unT ch=if wn=4 then [58,32,110,111,32]++ch.key.data.toList else []):=by
  show _=_;unfold Pl.unT;rw[zg];by_cases h:wn=4
  ·rw[if_pos h,if_pos (by omega)]
  ·rw[if_neg h,if_neg (by omega)]
 have Wt:=uh (Pl.qe B7);have HUL:=uh (Pl.vP B7);have HHP:Hid (Pl.hdT ch≠ []):=by show _≠_;unfold Pl.hdT;simp
 have Tf:=uh Vs;have UH:(sg++(⟨#[32]⟩:ByteArray)++ch.kind++(⟨#[32]⟩:ByteArray)++ch.name).size≤1000:=by
  simp only[XU];have:((⟨#[32]⟩:ByteArray)).size=1:=rfl;omega
 have Ww:(sg++(⟨#[32]⟩:ByteArray)++ch.kind++(⟨#[32]⟩:ByteArray)++ch.name).size≠0:=by
  simp only[XU];have:((⟨#[32]⟩:ByteArray)).size=1:=rfl;omega
 have y7:=uh (fun (X:World) (hX:Bel wa X)=>og w.heap.size (b0+2) [] (sg++(⟨#[32]⟩:ByteArray)++ch.kind++(⟨#[32]⟩:ByteArray)++ch.name) X (Uz.out.later hX) (Xg Ph.out hX.size) (by rw[XX];omega) (by rw[XX];omega));rw[zg];rw[← hn];have cZ:(0:Int)≤(wn:Int):=by omega
 have dy:(wn:Int)<5:=by omega
 have fT:ch.lines.length=n:=hn.symm;clear B7 Vs Lf UH Ww hn zg;rw[fT]at HX wG aP;clear fT;go_enter Tryz.func34,Tryz.ntmps34
 go_upto_region 3 with fail
 rw[← aP,← aU];clear aP aU;refine RY.oH wa zR (VJh b0 wn ch sg) (G6 _ _ _ _) (fun X=>BW w.heap.size (b0+2) (Pl.hdT ch) X∧KB w.heap.size (b0+2) wa X∧w.heap.size≤X.heap.size) 13 12 (by kernel_rfl) (by kernel_rfl) (by kernel_rfl) (by kernel_rfl) rfl [0,12] (by kernel_rfl) (by kernel_rfl) _ rfl rfl (by kernel_rfl) ?_ ?_ ?_
 ·intro ii o' ho wJ a X hX hk hd;have zb0:=HX.out.later hX;have zb0l:=zb0.lt;match ii,ho with
  |0,rfl=>
   exact RY.p (.pointer (some ⟨(b0+2),0,none⟩)) (by simp[execOp,go_sem,RY.K hk 4 (.pointer (some ⟨(b0+2),0,none⟩))])
  |1,rfl=>
   exact RY.p (.pointer (some ⟨b0,0,none⟩)) (by simp[execOp,go_sem,RY.K hk 1 (.pointer (some ⟨b0,0,none⟩))])
  |2,rfl=>
   have e10:=RY.E1 hd 1 10;have ycl_:=zb0.get 0 _ rfl;exact RY.p (.int .i64 (wn:Int)) (by simp[execOp,go_sem,e10,ycl_])
  |3,rfl=>
   exact RY.p (.pointer (some ⟨b0+1,wn,none⟩)) (by simp[execOp,go_sem,RY.K hk 3 (.pointer (some ⟨(b0+1),0,none⟩)),RY.E1 hd 2 11,cZ,dy])
  |4,rfl=>
   have e12:=RY.E1 hd 3 12;have ycl_:X.cell? ⟨b0+1,wn,none⟩=some (.string sg):=(hX.cell (p:=⟨b0+1,wn,none⟩) D1.out.2).trans D1.out.1;exact RY.p (.string sg) (by simp[execOp,go_sem,e12,ycl_])
  |5,rfl=>
   have e13:=RY.E1 hd 4 13;refine No ⟨.string (sg++(⟨#[32]⟩:ByteArray)),X, ?_,zR,rfl⟩;simp[execOp,go_sem,e13];try omega
  |6,rfl=>
   exact RY.p (.pointer (some ⟨b0,1,none⟩)) (by simp[execOp,go_sem,RY.K hk 1 (.pointer (some ⟨b0,0,none⟩))])
  |7,rfl=>
   have e15:=RY.E1 hd 6 15;have ycl_:=zb0.get 1 _ rfl;exact RY.p (.string ch.kind) (by simp[execOp,go_sem,e15,ycl_])
  |8,rfl=>
   have e14:=RY.E1 hd 5 14;have e16:=RY.E1 hd 7 16;refine No ⟨.string (sg++(⟨#[32]⟩:ByteArray)++ch.kind),X, ?_,zR,rfl⟩;simp[execOp,go_sem,e14,e16];try omega
  |9,rfl=>
   have e17:=RY.E1 hd 8 17;refine No ⟨.string (sg++(⟨#[32]⟩:ByteArray)++ch.kind++(⟨#[32]⟩:ByteArray)),X, ?_,zR,rfl⟩;simp[execOp,go_sem,e17];try omega
  |10,rfl=>
   exact RY.p (.pointer (some ⟨b0,2,none⟩)) (by simp[execOp,go_sem,RY.K hk 1 (.pointer (some ⟨b0,0,none⟩))])
  |11,rfl=>
   have e19:=RY.E1 hd 10 19;have ycl_:=zb0.get 2 _ rfl;exact RY.p (.string ch.name) (by simp[execOp,go_sem,e19,ycl_])
  |12,rfl=>
   have e18:=RY.E1 hd 9 18;have e20:=RY.E1 hd 11 20;refine No ⟨.string (sg++(⟨#[32]⟩:ByteArray)++ch.kind++(⟨#[32]⟩:ByteArray)++ch.name),X, ?_,zR,rfl⟩;simp[execOp,go_sem,e18,e20];try omega
  |n+13,ho=>omega
 ·intro a X hX hk hd;have e9:=RY.E1 hd 0 9;have e21:=RY.E1 hd 12 21;refine⟨12,#[.pointer (some ⟨b0+2,0,none⟩),.string (sg++(⟨#[32]⟩:ByteArray)++ch.kind++(⟨#[32]⟩:ByteArray)++ch.name)],by simp[go_sem,e9,e21],(y7.out X hX).mono ?_⟩;rintro e W' ⟨rfl,jh,jP,cX⟩;exact⟨_,rfl,by rw[V4.out]at jh;exact jh,(KB.of Ph.out hX).trans jP,cX⟩
 ·intro vs X hK;simp only[RY.aC,Act.put,so,As,An];generalize vs 9=s9,vs 10=s10,vs 11=s11,vs 12=s12,vs 13=s13,vs 14=s14,vs 15=s15,vs 16=s16,vs 17=s17,vs 18=s18,vs 19=s19,vs 20=s20,vs 21=s21,vs 22=s22;obtain⟨jh,jP,cX⟩:=hK;obtain⟨W1,MA⟩:∃ z,z=X:=⟨_,rfl⟩
  rw[← MA]at jh jP cX ⊢;have HW:=uh (Xt jh (Xt jP cX));clear MA jh jP cX;have PG:Hid ((Pl.hdT ch).length≠0):=fun e=>HHP.out (Xs e);have Wl:=uh (HW.out.2.1.box _ _ _ wG.out (by omega) (by decide));have x0:=Wl.out.get 0 _ rfl;have x3:=Wl.out.get 3 _ rfl;have xl0:=Wl.out.own.lt;by_cases h4:wn=4
  ·have Wf:((wn:Int)==4)=true:=by simp[h4]
   have V2:Hid (Pl.unT ch=[58,32,110,111,32]++ch.key.data.toList):=by show _=_;rw[HUN.out,if_pos h4]
   have hk63:ch.key.size≤9223372036854775807:=by omega
   obtain⟨T0,EA⟩:∃ z,z=Pl.hdT ch++Pl.unT ch:=⟨_,rfl⟩
   have Mv:=uh EA;rw[← EA]at Tf;obtain⟨sk,RT⟩:∃ z:ByteArray,z=(⟨#[58,32,110,111,32]⟩:ByteArray)++ch.key:=⟨_,rfl⟩
   have R1:sk.data.toList=Pl.unT ch:=by rw[RT,V2.out];simp[ByteArray.data_append]
   have UD:sk.size≤1000:=by rw[RT,XU];have:(⟨#[58,32,110,111,32]⟩:ByteArray).size=5:=rfl;omega
   have La:=uh (og w.heap.size (b0+2) (Pl.hdT ch) sk W1 HW.out.1 HW.out.2.2 (by have:=PG.out;omega) (by have:=Wt.out;omega));have HSK:Hid ((Pl.hdT ch)++sk.data.toList=T0):=by show _=_;rw[R1,EA]
   rw[RT]at La;clear EA h4 R1 UD;go_wp2_with fail
   refine La.out.mono ?_;rintro e W2 ⟨rfl,OH,SN,Sp⟩;rw[← RT,HSK.out]at OH;have It:=uh OH;have AX:=uh (HW.out.2.1.trans SN);have IS:=uh Sp;clear OH SN Sp x0 x3 xl0 La RT;have HT:Hid (T0.length≤1000∧T0.length≠0):=⟨by rw[Mv.out,At];have:=Wt.out;have:=HUL.out;omega,by rw[Mv.out,At];have:=PG.out;omega⟩
   have kg:=uh (AX.out.box _ _ _ wG.out (by omega) (by decide));have x4:=kg.out.get 4 _ rfl;have xl:=kg.out.own.lt;go_wp2;clear x4 xl;go_loopw [5,34] (fun va vi wr=>∃ k:Nat,k≤n∧vi=.int .i64 k∧va=.string (Pl.sY k)∧BW w.heap.size (b0+2) (T0++Pl.ej ch.lines k) wr∧KB w.heap.size (b0+2) wa wr∧w.heap.size≤wr.heap.size) (fun _ vi _=>n - (intOf vi).toNat)
   case atStart=>exact⟨0,zN,rfl,rfl,by rw[Pl.ej,Xl];exact It.out,AX.out,IS.out⟩
   case round=>
    obtain⟨k,hk,rfl,rfl,jh,jP,cX⟩:=hrel;have sB:=uh jh;have o9:=uh jP;have vV:=uh cX;clear jh jP cX;have sK:=Pl.ju ch.lines wA.out.ws k (by have:=HN.out;omega);have kB:Hid ((T0++Pl.ej ch.lines k).length≤50000000∧(T0++Pl.ej ch.lines k).length≠0):=by have:=HT.out;have:=HN.out;have:=wA.out.ln;rw[At];exact⟨by omega,by omega⟩
    clear sK;by_cases bq:k<n
    rotate_left
    ·obtain rfl:k=n:=by omega
     have eU:=uh (QX w.heap.size (b0+2) _ wr sB.out (by have:=kB.out.1;omega));have zd:Hid (R0=⟨(T0++Pl.ej ch.lines k).toArray⟩):=by show _=_;rw[Tf.out,HN.out]
     go_wp2_with fail
     refine eU.out.mono ?_;rintro e w9 ⟨rfl,hU⟩;have Rs:Hid (Bel w w9):=(HB.out.trans o9.out.bel).trans hU;rw[← zd.out];clear hU;go_wp2;go_ret;exact⟨rfl,Rs.out⟩
    have eB:k<ch.lines.length:=by have:=HN.out;omega
    have sJ:Bel w wr:=HB.out.trans o9.out.bel;rcases bO jm.out with⟨e0,_⟩|⟨p,o,c,hv,hp,dR,aE⟩
    ·omega
    rw[← HN.out]at hv dR;injection hv with g1 _ g3
    subst g1;subst g3;unfold maxLen at dR;obtain⟨ax,cx,IT,dH⟩:=aE k eB;have dm:=aj IT hp sJ;have Eh:ch.lines.getD k Pl.aK∈ch.lines:=by
     have e:ch.lines.getD k Pl.aK=ch.lines[k]:=by simp[eB]
     rw[e];exact Xq eB
    have Ez:=uh (wA.out.ws (ch.lines.getD k Pl.aK) Eh);clear Eh;have IX:Hid (Pl.ej ch.lines (k+1)=Pl.ej ch.lines k++(Pl.vE k++Pl.gp (ch.lines.getD k Pl.aK))):=rfl;obtain⟨x,hx⟩:∃ x,x=ch.lines.getD k Pl.aK:=⟨_,rfl⟩
    rw[← hx]at dm dH Ez IX;obtain⟨LK,Jk⟩:∃ z,z=T0++Pl.ej ch.lines k:=⟨_,rfl⟩
    rw[← Jk]at sB kB;have II:Hid (T0++Pl.ej ch.lines (k+1)=LK++(Pl.sY k).data.toList++Pl.gp x):=by show _=_;rw[IX.out,Jk,Pl.EE];simp only[XG]
    obtain⟨w6,nR⟩:∃ z,z=wr.alloc (.cells #[.string x.key,.slice ax x.ws.length cx] 41):=⟨_,rfl⟩
    have lM:Bel wr w6:=by rw[nR];exact af zR _
    obtain⟨z0,dp⟩:∃ z,z=wr.heap.size:=⟨_,rfl⟩
    have AN:Hid (aA w6 z0 41 [.string x.key,.slice ax x.ws.length cx]):=by show aA _ _ _ _;rw[nR,dp];exact aA.new wr [.string x.key,.slice ax x.ws.length cx] 41 _ rfl
    have kt:Hid (z0≠b0+2):=by have:=o9.out.bel.size;have:=l4.out;show _≠_;omega
    have PK:=uh (sB.out.later lM);have Ox:Hid (KB w.heap.size (b0+2) wa w6):=o9.out.trans (KB.of vV.out lM);have N6:=uh (Xg vV.out lM.size);have qn:=uh dH;have lG:(0:Int)≤(k:Int):=by omega
    have tg:(k:Int)<(n:Int):=by omega
    obtain⟨sb,Sn⟩:∃ z,z=Pl.sY k:=⟨_,rfl⟩
    have kZ:=Pl.BN k;rw[← Sn]at II kZ ⊢;have wI:=uh (og w.heap.size (b0+2) LK sb w6 PK.out N6.out (by omega) (by have:=kB.out.1;omega));have UI:=uh kZ;clear hx Jk aE hp lM dH Sn sJ IT kZ;go_upto_region 10 with(refine wpList_load_mid rfl 41 _ rfl p (o+k*2) rfl [.string x.key,.slice ax x.ws.length cx] _ dm Tryz.underlying41 rfl (by kernel_rfl) ?_)
    rw[← nR,← dp];clear nR dp dm;go_wp2_with fail
    refine wI.out.mono ?_;rintro e w7 ⟨rfl,jh,jP,cX⟩;have S5:=uh (jP.box _ _ _ AN.out kt.out (by decide));have AG:=uh (Ox.out.trans jP);have LQ:=uh (L5 w w7 (b0+2) (LK++sb.data.toList) x ax cx (HB.out.trans AG.out.bel) qn.out jh (by have:=AG.out.bel.size;have:=l4.out;omega) (by rw[At];have:=kB.out.2;omega) (by rw[At,Pl.aD];have:=kB.out.1;have:=UI.out;omega) (by have:=Ez.out.1;omega));clear jh jP cX wI;have za:=S5.out.at_;have zl:=S5.out.own.lt;go_wp2_with (refine wpList_load_mid rfl 41 _ rfl z0 0 rfl [.string x.key,.slice ax x.ws.length cx] _ za Tryz.underlying41 rfl (by kernel_rfl) ?_)
    refine LQ.out.mono ?_;rintro e w8 ⟨rfl,Jq,IZ,Il⟩;have Pr:=uh (Xt Jq (Xt (AG.out.trans IZ) Il));clear Jq IZ Il za zl LQ;go_wp2;go_roundw
    case rel=>exact⟨k+1,by omega,by go_num,rfl,by rw[II.out];exact Pr.out.1,Pr.out.2.1,Pr.out.2.2⟩
    case measure=>simp[intOf];omega
  ·have Wf:((wn:Int)==4)=false:=by simp;omega
   have V2:Hid (Pl.unT ch=[]):=by show _=_;rw[HUN.out,if_neg h4]
   obtain⟨T0,EA⟩:∃ z,z=Pl.hdT ch++Pl.unT ch:=⟨_,rfl⟩
   have Mv:=uh EA;rw[← EA]at Tf;have It:Hid (BW w.heap.size (b0+2) T0 W1):=by show BW _ _ _ _;rw[EA,V2.out,Xl];exact HW.out.1
   have AX:=uh HW.out.2.1;have IS:=uh HW.out.2.2;clear EA h4;have HT:Hid (T0.length≤1000∧T0.length≠0):=⟨by rw[Mv.out,At];have:=Wt.out;have:=HUL.out;omega,by rw[Mv.out,At];have:=PG.out;omega⟩
   have kg:=uh (AX.out.box _ _ _ wG.out (by omega) (by decide));have x4:=kg.out.get 4 _ rfl;have xl:=kg.out.own.lt;go_wp2;clear x4 xl x0 x3 xl0;go_loopw [5,34] (fun va vi wr=>∃ k:Nat,k≤n∧vi=.int .i64 k∧va=.string (Pl.sY k)∧BW w.heap.size (b0+2) (T0++Pl.ej ch.lines k) wr∧KB w.heap.size (b0+2) wa wr∧w.heap.size≤wr.heap.size) (fun _ vi _=>n - (intOf vi).toNat)
   case atStart=>exact⟨0,zN,rfl,rfl,by rw[Pl.ej,Xl];exact It.out,AX.out,IS.out⟩
   case round=>
    obtain⟨k,hk,rfl,rfl,jh,jP,cX⟩:=hrel;have sB:=uh jh;have o9:=uh jP;have vV:=uh cX;clear jh jP cX;have sK:=Pl.ju ch.lines wA.out.ws k (by have:=HN.out;omega);have kB:Hid ((T0++Pl.ej ch.lines k).length≤50000000∧(T0++Pl.ej ch.lines k).length≠0):=by have:=HT.out;have:=HN.out;have:=wA.out.ln;rw[At];exact⟨by omega,by omega⟩
    clear sK;by_cases bq:k<n
    rotate_left
    ·obtain rfl:k=n:=by omega
     have eU:=uh (QX w.heap.size (b0+2) _ wr sB.out (by have:=kB.out.1;omega));have zd:Hid (R0=⟨(T0++Pl.ej ch.lines k).toArray⟩):=by show _=_;rw[Tf.out,HN.out]
     go_wp2_with fail
     refine eU.out.mono ?_;rintro e w9 ⟨rfl,hU⟩;have Rs:Hid (Bel w w9):=(HB.out.trans o9.out.bel).trans hU;rw[← zd.out];clear hU;go_wp2;go_ret;exact⟨rfl,Rs.out⟩
    have eB:k<ch.lines.length:=by have:=HN.out;omega
    have sJ:Bel w wr:=HB.out.trans o9.out.bel;rcases bO jm.out with⟨e0,_⟩|⟨p,o,c,hv,hp,dR,aE⟩
    ·omega
    rw[← HN.out]at hv dR;injection hv with g1 _ g3
    subst g1;subst g3;unfold maxLen at dR;obtain⟨ax,cx,IT,dH⟩:=aE k eB;have dm:=aj IT hp sJ;have Eh:ch.lines.getD k Pl.aK∈ch.lines:=by
     have e:ch.lines.getD k Pl.aK=ch.lines[k]:=by simp[eB]
     rw[e];exact Xq eB
    have Ez:=uh (wA.out.ws (ch.lines.getD k Pl.aK) Eh);clear Eh;have IX:Hid (Pl.ej ch.lines (k+1)=Pl.ej ch.lines k++(Pl.vE k++Pl.gp (ch.lines.getD k Pl.aK))):=rfl;obtain⟨x,hx⟩:∃ x,x=ch.lines.getD k Pl.aK:=⟨_,rfl⟩
    rw[← hx]at dm dH Ez IX;obtain⟨LK,Jk⟩:∃ z,z=T0++Pl.ej ch.lines k:=⟨_,rfl⟩
    rw[← Jk]at sB kB;have II:Hid (T0++Pl.ej ch.lines (k+1)=LK++(Pl.sY k).data.toList++Pl.gp x):=by show _=_;rw[IX.out,Jk,Pl.EE];simp only[XG]
    obtain⟨w6,nR⟩:∃ z,z=wr.alloc (.cells #[.string x.key,.slice ax x.ws.length cx] 41):=⟨_,rfl⟩
    have lM:Bel wr w6:=by rw[nR];exact af zR _
    obtain⟨z0,dp⟩:∃ z,z=wr.heap.size:=⟨_,rfl⟩
    have AN:Hid (aA w6 z0 41 [.string x.key,.slice ax x.ws.length cx]):=by show aA _ _ _ _;rw[nR,dp];exact aA.new wr [.string x.key,.slice ax x.ws.length cx] 41 _ rfl
    have kt:Hid (z0≠b0+2):=by have:=o9.out.bel.size;have:=l4.out;show _≠_;omega
    have PK:=uh (sB.out.later lM);have Ox:Hid (KB w.heap.size (b0+2) wa w6):=o9.out.trans (KB.of vV.out lM);have N6:=uh (Xg vV.out lM.size);have qn:=uh dH;have lG:(0:Int)≤(k:Int):=by omega
    have tg:(k:Int)<(n:Int):=by omega
    obtain⟨sb,Sn⟩:∃ z,z=Pl.sY k:=⟨_,rfl⟩
    have kZ:=Pl.BN k;rw[← Sn]at II kZ ⊢;have wI:=uh (og w.heap.size (b0+2) LK sb w6 PK.out N6.out (by omega) (by have:=kB.out.1;omega));have UI:=uh kZ;clear hx Jk aE hp lM dH Sn sJ IT kZ;go_upto_region 10 with(refine wpList_load_mid rfl 41 _ rfl p (o+k*2) rfl [.string x.key,.slice ax x.ws.length cx] _ dm Tryz.underlying41 rfl (by kernel_rfl) ?_)
    rw[← nR,← dp];clear nR dp dm;go_wp2_with fail
    refine wI.out.mono ?_;rintro e w7 ⟨rfl,jh,jP,cX⟩;have S5:=uh (jP.box _ _ _ AN.out kt.out (by decide));have AG:=uh (Ox.out.trans jP);have LQ:=uh (L5 w w7 (b0+2) (LK++sb.data.toList) x ax cx (HB.out.trans AG.out.bel) qn.out jh (by have:=AG.out.bel.size;have:=l4.out;omega) (by rw[At];have:=kB.out.2;omega) (by rw[At,Pl.aD];have:=kB.out.1;have:=UI.out;omega) (by have:=Ez.out.1;omega));clear jh jP cX wI;have za:=S5.out.at_;have zl:=S5.out.own.lt;go_wp2_with (refine wpList_load_mid rfl 41 _ rfl z0 0 rfl [.string x.key,.slice ax x.ws.length cx] _ za Tryz.underlying41 rfl (by kernel_rfl) ?_)
    refine LQ.out.mono ?_;rintro e w8 ⟨rfl,Jq,IZ,Il⟩;have Pr:=uh (Xt Jq (Xt (AG.out.trans IZ) Il));clear Jq IZ Il za zl LQ;go_wp2;go_roundw
    case rel=>exact⟨k+1,by omega,by go_num,rfl,by rw[II.out];exact Pr.out.1,Pr.out.2.1,Pr.out.2.2⟩
    case measure=>simp[intOf];omega
theorem tU (r:Pl.Ru) (l:List Pl.Ln):(Pl.dV r l).length≤l.length+1:=by
 unfold Pl.dV;split
 ·simp
 ·exact Nat.le_succ_of_le (Pl.gG _ _)
theorem rG (l:List Pl.Ln):∀ rs:List Pl.Ru,(rs.flatMap (fun r=>Pl.dV r l)).length≤rs.length*(l.length+1)
 |[]=>by simp
 |r::rs=>by
  have:=rG l rs;have h2:=tU r l;rw[XP,At,Xm,Nat.succ_mul];omega
theorem JS (kind:ByteArray) (ra:Option Addr) (rc:Nat) (l:List Pl.Ln) (v:Value) (w:World) (hr:Raw w [.row 75 aB] [bV (Pl.ah kind)] [.slice ra (Pl.ah kind).length rc]) (h:Raw w aV [bD l] [v]) (hl:l.length≤1048576) (hw:∀ x∈l,x.ws.length≤4194304):
  Calls Tryz.prog 55 #[.agg #[.slice ra (Pl.ah kind).length rc],v] w (eT aV (bD (Pl.filled kind l)) w):=by
 have HL:=uh h;have Sl:=uh (Xt hl hw);have nV:=uh hr;have HDS:=uh (ri kind);have jm:=uh (Pl.ey kind);have HFE:Hid (Pl.filled kind l=(Pl.ah kind).flatMap (fun r=>Pl.dV r l)):=rfl;obtain⟨rs,y4⟩:∃ rs,rs=Pl.ah kind:=⟨_,rfl⟩
 rw[← y4]at nV HDS jm HFE;rw[← y4];obtain⟨va,vc,ev⟩:=h.aT;subst ev;clear h hr hl hw y4;obtain⟨n,hn⟩:∃ n,n=rs.length:=⟨_,rfl⟩
 have HN:=uh hn;have gF:rs.length=n:=hn.symm;clear hn;rw[gF]at jm;rw[gF];clear gF;obtain⟨b0,aU⟩:∃ b,b=w.heap.size:=⟨_,rfl⟩
 have HZ:=uh aU;obtain⟨wa,aP⟩:∃ wa,wa=w.alloc (.cells #[.slice ra n rc] 141):=⟨_,rfl⟩
 have HB:Hid (Bel w wa):=by show Below _ _ _;rw[aP];exact af zR _
 have dX:Hid (au wa b0 [.slice ra n rc]):=by show au _ _ _;rw[aP,aU];exact au.new w #[.slice ra n rc] _ _ rfl
 go_enter Tryz.func55,Tryz.ntmps55
 go_upto_region 1 with fail
 rw[← aP,← aU];clear aP aU;have x0:=dX.out.get 0 _ rfl;have xl:=dX.out.lt;go_wp2;clear x0 xl;go_loopw [5,11] (fun vo vi wr=>∃ (k:Nat) (G:List Nat) (xs:List Value),k≤n∧vi=.int .i64 k∧Gr wr w.heap.size 41 ao vo ((rs.take k).flatMap (fun r=>Pl.dV r l)).length G (((rs.take k).flatMap (fun r=>Pl.dV r l)).flatMap lnD) xs∧Bel w wr) (fun _ vi _=>n - (intOf vi).toNat)
 case atStart=>exact⟨0,[],[],zN,rfl,Gr.nil _ _ _ _,HB.out⟩
 case round=>
  obtain⟨k,G,xs,hk,rfl,hG,hB⟩:=hrel;have cV:=uh hG;have cB:=uh hB;obtain⟨ua,uc,sD⟩:=hG.shape;subst sD;clear hG hB;by_cases bq:k<n
  rotate_left
  ·have jq:rs.take k=rs:=Xp (by have:=HN.out;omega);rw[jq]at cV ⊢;obtain⟨F,r,nd,fr⟩:=cV.out.done;have HD:Hid (eT aV (bD (Pl.filled kind l)) w (.returned (.slice ua (rs.flatMap (fun r=>Pl.dV r l)).length uc)) wr):=by rw[HFE.out];exact⟨_,F,rfl,r,nd,fr,cB.out⟩
   clear r nd fr jq;go_wp2;go_ret;exact HD.out
  have eB:k<rs.length:=by have:=HN.out;omega
  have Ta:n≤100:=jm.out;obtain⟨p,o,c,a1,c1,v3,hv,hp,hg,_,KX⟩:=gD (nV.out.later cB.out) eB;rw[← HN.out]at hv;injection hv with g1 _ g3
  subst g1;subst g3;obtain⟨a3,c3,e5⟩:=KX.aT;subst e5;have MC:Hid ((rs.getD k Pl.bu).dflt.length≤4194304):=by
   have e:rs.getD k Pl.bu=rs[k]:=by simp[eB]
   show _≤_;rw[e];exact HDS.out _ (Xq eB)
  have kc:Hid (rs.take (k+1)=rs.take k++[rs.getD k Pl.bu]):=by
   have e:rs.getD k Pl.bu=rs[k]:=by simp[eB]
   show _=_;rw[e,XI eB]
  have hle:((rs.take k).flatMap (fun r=>Pl.dV r l)).length≤100*1048577:=by
   have h1:=rG l (rs.take k);have h2:=Sl.out.1;have h3:=jm.out;rw[Xo]at h1;exact Xg h1 (Nat.mul_le_mul (by have:=HN.out;omega) (by omega))
  obtain⟨ru,RI⟩:∃ ru,ru=rs.getD k Pl.bu:=⟨_,rfl⟩
  rw[← RI]at hg KX MC kc;obtain⟨ac,sA⟩:∃ ac,ac=(rs.take k).flatMap (fun r=>Pl.dV r l):=⟨_,rfl⟩
  rw[← sA]at cV hle ⊢;have TA:=uh sA;have cZ:(0:Int)≤(k:Int):=by omega
  have dy:(k:Int)<(n:Int):=by omega
  obtain⟨y,hy⟩:∃ y,y=wr.alloc (.cells #[.string ru.key,.slice a1 ru.args.length c1,.bool ru.many,.slice a3 ru.dflt.length c3] 75):=⟨_,rfl⟩
  obtain⟨z0,dp⟩:∃ z,z=wr.heap.size:=⟨_,rfl⟩
  have eS:Bel wr y:=by rw[hy];exact af zR _
  have jk:Hid (au y z0 [.string ru.key,.slice a1 ru.args.length c1,.bool ru.many,.slice a3 ru.dflt.length c3]):=by show au _ _ _;rw[hy];exact au.new _ #[.string ru.key,.slice a1 ru.args.length c1,.bool ru.many,.slice a3 ru.dflt.length c3] _ _ dp
  have HC:=uh (Ni ru a1 a3 c1 c3 l (.slice va l.length vc) y (HL.out.later (ae cB.out eS)) (by have:=Sl.out.1;omega) Sl.out.2 (KX.later eS) MC.out);have qt:=uh (tU ru l);clear RI sA;go_upto_region 5 with(refine wpList_load_mid rfl 75 _ rfl p (o+k*4) rfl [.string ru.key,.slice a1 ru.args.length c1,.bool ru.many,.slice a3 ru.dflt.length c3] _ hg Tryz.underlying75 rfl (by kernel_rfl) ?_)
  rw[← hy,← dp];clear hy dp hg hp KX;replace cV:=uh (cV.out.later eS)
  replace cB:=uh (ae cB.out eS)
  clear eS;have pU:=jk.out.at_;have gh:=jk.out.lt;go_wp2_with (refine wpList_load_mid rfl 75 _ rfl z0 0 rfl [.string ru.key,.slice a1 ru.args.length c1,.bool ru.many,.slice a3 ru.dflt.length c3] _ pU Tryz.underlying75 rfl (by kernel_rfl) ?_)
  refine HC.out.mono ?_;rintro e w1 ⟨v1,F,rfl,r,nd,fr,hb⟩;obtain⟨mt,JI⟩:∃ mt,mt=Pl.dV ru l:=⟨_,rfl⟩
  rw[← JI]at r qt;have HMT:=uh JI;obtain⟨wx,wc,wg⟩:=r.raw.aT;subst wg;have OO:=cV.out.later hb;have Pu:=ae cB.out hb;obtain⟨u,W2,G',xs',bC,eC,Co,_⟩:=oQ (P:=Tryz.prog) w.heap.size 35 35 41 2 40 _ Tryz.cI Tryz.ir rfl (by decide) (by decide) ao rfl OO r nd (fun b gY=>⟨Xg cB.out.size (fr b gY),fun hq=>by have:=cV.out.rep.lt b hq;have:=fr b gY;omega,fun hq=>by have:=(aW cV.out.row hq).2;have:=fr b gY;omega⟩) (by have:=qt.out;have:=Sl.out.1;omega) Pu.size;have pG:Hid (Bel w W2):=dF Pu Co (fun b e=>(aW OO.row e).1);have Rz:Hid (Gr W2 w.heap.size 41 ao u ((rs.take (k+1)).flatMap (fun r=>Pl.dV r l)).length G' (((rs.take (k+1)).flatMap (fun r=>Pl.dV r l)).flatMap lnD) xs'):=by
   show Gr _ _ _ _ _ _ _ _ _;rw[kc.out,Xv,XE,← TA.out,← HMT.out,At,Xv];exact eC
  clear JI r nd fr hb OO Pu eC Co pU gh HC jk;go_wp2_with (at_builtin;refine Go.Lib.wpList_append_run _ rfl _ _ 35 35 rfl _ _ rfl rfl _ W2 bC ?_)
  clear bC cV cB;go_roundw
  case rel=>exact⟨k+1,G',xs',bq,by go_num,Rz.out,pG.out⟩
  case measure=>simp[intOf];omega
theorem Km (x:Pl.Bl) (aw:Option Addr) (cw B1 B2 mb:Nat) (vt vb vs:Value) (X:World) (h1:X.cell? ⟨B1,0,none⟩=some (.func (.func 55) #[] #[])) (pc:B1<X.heap.size) (h2:X.cell? ⟨B2,0,none⟩=some (.map (some mb))) (uH:B2<X.heap.size) (hk:Kn X mb vt vb vs) (h:Raw X aV [bD x.lines] [.slice aw x.lines.length cw]) (kZ:x.lines.length≤1048576∧∀ y∈x.lines,y.ws.length≤4194304):
  Calls Tryz.prog 79 #[.agg #[.string x.kind,.string x.name,.slice aw x.lines.length cw],.pointer (some ⟨B1,0,none⟩),.pointer (some ⟨B2,0,none⟩)] X (Ans aq (blD ⟨x.kind,x.name,Pl.filled x.kind x.lines⟩) X):=by
 obtain⟨b0,aU⟩:∃ b,b=X.heap.size:=⟨_,rfl⟩
 obtain⟨wa,aP⟩:∃ wa,wa=(X.alloc (.cells #[.string x.kind,.string x.name,.slice aw x.lines.length cw] 58)).alloc (.cells #[.string {data:=#[]},.string {data:=#[]},.slice none 0 0] 58):=⟨_,rfl⟩
 have HB:Hid (Bel X wa):=by show Below _ _ _;rw[aP];exact af (af zR _) _
 have HX:Hid (aA wa b0 58 [.string x.kind,.string x.name,.slice aw x.lines.length cw]):=by show aA _ _ _ _;rw[aP,aU];exact(aA.new X [.string x.kind,.string x.name,.slice aw x.lines.length cw] _ _ rfl).later (af zR _)
 have HO:Hid (aN wa (b0+1) 58 3):=by show aN _ _ _ _;rw[aP];exact aN.eL _ _ _ _ _ rfl (by simp[aU])
 have ZA:Hid (wa.heap.size=b0+2):=by show _=_;rw[aP];simp[aU]
 have HZ:=uh aU;obtain⟨ra,rc,uI,D7⟩:=(hk.later HB.out).look x.kind;have HC:=uh (JS x.kind ra rc x.lines (.slice aw x.lines.length cw) wa D7 (h.later HB.out) kZ.1 kZ.2);have y1:wa.cell? ⟨B1,0,none⟩=some (.func (.func 55) #[] #[]):=(HB.out.cell (p:=⟨B1,0,none⟩) pc).trans h1;have y2:wa.cell? ⟨B2,0,none⟩=some (.map (some mb)):=(HB.out.cell (p:=⟨B2,0,none⟩) uH).trans h2;have yl1:B1<wa.heap.size:=zL pc HB.out.size;have yl2:B2<wa.heap.size:=zL uH HB.out.size;obtain⟨rn,hrn⟩:∃ rn,rn=(Pl.ah x.kind).length:=⟨_,rfl⟩
 rw[← hrn]at uI HC;clear hrn;obtain⟨o,ho⟩:∃ o,o=Pl.filled x.kind x.lines:=⟨_,rfl⟩
 rw[← ho]at HC;rw[← ho];clear ho;go_enter Tryz.func79,Tryz.ntmps79
 go_upto_region 1 with fail
 rw[← aP,← aU];clear aP aU h1 h2 hk h kZ D7 pc uH;have x0:=HX.out.get 0 _ rfl;have x2:=HX.out.get 2 _ rfl;have xl:=HX.out.own.lt;go_wp2_with fail
 refine HC.out.mono ?_;rintro e w1 ⟨v1,F,rfl,r,nd,fr,hb⟩;obtain⟨wx,wc,wg⟩:=r.raw.aT;subst wg;have HR:=uh (Xt r (Xt nd fr));have kg:=HX.out.later hb;obtain⟨y,hy⟩:∃ y,y=w1.setCell ⟨b0,2,none⟩ (.slice wx o.length wc):=⟨_,rfl⟩
 have jb:Hid (aA y b0 58 [.string x.kind,.string x.name,.slice wx o.length wc]):=by show aA _ _ _ _;rw[hy];exact kg.set 2 _ (by simp)
 have HM:Hid (Marks (fun b=>b=b0) w1 y):=by show Marks _ _ _;rw[hy];exact Marks.sc (S:=fun b=>b=b0) _ rfl _ _
 have fy:=uh (HM.out.own _ _ _ (HO.out.later hb));have eM:Hid (Bel X y):=HM.out.below (fun b e=>by rw[e,HZ.out];exact zE) (ae HB.out hb);have HF:Hid (∀ b∈F,b0+2≤b):=fun b hb=>by have:=HR.out.2.2 b hb;have:=ZA.out;omega
 have z2:=kg.get 2 _ rfl;have zf:=kg.own.frozen 2;have zz:=kg.own.lt;clear r nd fr hb x0 x2 xl uI y1 y2 yl1 yl2;go_upto_region 2 with fail
 rw[← hy];clear hy z2 zf zz kg HC;have iO:=jb.out.own.lt;have lF:=jb.out.at_;have bJ:y.there (b0+1) 0 (#[.string x.kind,.string x.name,.slice wx o.length wc]:Array Value).size:=aX fy.out _ _ (by simp);obtain⟨we,aZ⟩:∃ we,we=y.setCells (b0+1) 0 [.string x.kind,.string x.name,.slice wx o.length wc]:=⟨_,rfl⟩
 have dP:we.rangeAt (b0+1) 0 [.string x.kind,.string x.name,.slice wx o.length wc]:=by rw[aZ];exact World.rangeAt_setCells_same _ _ _ _ bJ
 have jK:Hid (Marks (fun b=>b=b0+1) y we):=by show Marks _ _ _;rw[aZ];exact bf (S:=fun b=>b=b0+1) rfl _ _ _
 have fm:Hid (Bel X we):=by show Below _ _ _;rw[aZ];exact bW (by have:=HZ.out;omega) _ _ _ eM.out
 go_wp2_with (first|(refine wpList_load_mid rfl 58 _ rfl b0 0 rfl [.string x.kind,.string x.name,.slice wx o.length wc] _ lF Tryz.underlying58 rfl (by kernel_rfl) ?_)|(refine wpList_store_mid rfl 58 _ _ rfl (b0+1) 0 #[.string x.kind,.string x.name,.slice wx o.length wc] rfl rfl bJ (by kernel_rfl) (by simp[Value.oneCell']) ?_))
 first|rw[← aZ]|(simp only[Xi];rw[← aZ])
 try simp only[Act.put]
 refine bodyPost_ret (v:=.agg #[.string x.kind,.string x.name,.slice wx o.length wc]) (by simp[results,Tryz.results79,asAddr,run_loadVar_mid (P:=Tryz.prog) _ _ _ 58 [.string x.kind,.string x.name,.slice wx o.length wc] _ dP Tryz.underlying58 rfl (by kernel_rfl)]) rfl ?_;have M1:=HR.out.1.cO HM.out (fun b hb e=>by have:=HF.out b hb;omega);have M2:=M1.cO jK.out (fun b hb e=>by have:=HF.out b hb;omega);refine⟨[.string x.kind,.string x.name,.slice wx o.length wc],F++[],rfl,cT _ _ M2,by rw[Xl];exact HR.out.2.1,fun b hb=>by rw[Xl]at hb;have:=HF.out b hb;have:=HZ.out;omega,fm.out⟩
theorem FP (s:List Pl.Bl) (v:Value) (w:World) (h:Raw w bL [cq s] [v]) (hz:oi s) (nK:∀ b∈s,b.lines.length≤1048576∧∀ x∈b.lines,x.ws.length≤4194304):
  Calls Tryz.prog 54 #[.agg #[v],.func (.func 55) #[] #[]] w (Ans ee [cq (if Pl.bw s then s.map (fun x=>⟨x.kind,x.name,Pl.filled x.kind x.lines⟩) else [])] w):=by
 have HL:=uh h;have kB:=uh nK;have Bb:=uh (fun hv:Pl.bw s=true=>FO hv);obtain⟨va,vc,ev⟩:=h.aT;subst ev;have Tj:=uh (fun X (hX:Bel w X)=>kE s (.slice va s.length vc) X (h.later hX) hz);clear h hz nK;obtain⟨n,hn⟩:∃ n,n=s.length:=⟨_,rfl⟩
 have HN:=uh hn;have gF:s.length=n:=hn.symm;clear hn;rw[gF]at Tj Bb;rw[gF];clear gF;obtain⟨R,hR⟩:∃ R,R=(if Pl.bw s then s.map (fun x:Pl.Bl=>(⟨x.kind,x.name,Pl.filled x.kind x.lines⟩:Pl.Bl)) else []):=⟨_,rfl⟩
 rw[← hR];obtain⟨vb0,Ri⟩:∃ x,x=Pl.bw s:=⟨_,rfl⟩
 rw[← Ri]at Tj Bb hR;have zd:=uh hR;clear hR Ri;obtain⟨b0,aU⟩:∃ b,b=w.heap.size:=⟨_,rfl⟩
 have HZ:=uh aU;obtain⟨wa,aP⟩:∃ wa,wa=((w.alloc (.cells #[.slice va n vc] 26)).alloc (.cells #[.func (.func 55) #[] #[]] 110)).alloc (.cells #[.slice none 0 0] 26):=⟨_,rfl⟩
 have HB:Hid (Bel w wa):=by show Below _ _ _;rw[aP];exact af (af (af zR _) _) _
 have dX:Hid (au wa b0 [.slice va n vc]):=by show au _ _ _;rw[aP,aU];exact((au.new w #[.slice va n vc] _ _ rfl).eO _).eO _
 have lS:Hid (au wa (b0+1) [.func (.func 55) #[] #[]]):=by show au _ _ _;rw[aP];exact(au.new _ #[.func (.func 55) #[] #[]] _ _ (by simp[aU])).eO _
 have HO:Hid (aN wa (b0+2) 26 1):=by show aN _ _ _ _;rw[aP];exact aN.eL _ _ _ _ _ rfl (by simp[aU])
 have ZA:Hid (wa.heap.size=b0+3):=by show _=_;rw[aP];simp[aU]
 go_enter Tryz.func54,Tryz.ntmps54
 go_upto_region 1 with fail
 rw[← aP,← aU];clear aP aU;have x0:=dX.out.get 0 _ rfl;have xl:=dX.out.lt;go_wp2_with fail
 refine(Tj.out _ HB.out).mono ?_;rintro e w1 ⟨rfl,cr⟩;have Cm:Hid (b0+3≤w1.heap.size):=by have:=ZA.out;have:=cr.size;show _≤_;omega
 replace HB:=uh (ae HB.out cr)
 replace dX:=uh (dX.out.later cr)
 replace lS:=uh (lS.out.later cr)
 replace HO:=uh (HO.out.later cr)
 clear cr x0 xl Tj ZA;cases vb0
 ·have Tm:Hid (R=[]):=zd.out;obtain⟨oc,hoc⟩:=HO.out.cell 0 (by decide);have of:=HO.out.frozen 0;have ol:=HO.out.lt;have bJ:w1.there (b0+2) 0 (#[.slice none 0 0]:Array Value).size:=aX HO.out _ _ (by simp);obtain⟨we,aZ⟩:∃ we,we=w1.setCells (b0+2) 0 [.slice none 0 0]:=⟨_,rfl⟩
  have dP:we.rangeAt (b0+2) 0 [.slice none 0 0]:=by rw[aZ];exact World.rangeAt_setCells_same _ _ _ _ bJ
  have fm:Hid (Bel w we):=by show Below _ _ _;rw[aZ];exact bW (by have:=HZ.out;omega) _ _ _ HB.out
  go_wp2_with (refine wpList_store_mid rfl 26 _ _ rfl (b0+2) 0 #[.slice none 0 0] rfl rfl bJ (by kernel_rfl) (by simp[Value.oneCell']) ?_)
  first|rw[← aZ]|(simp only[Xi];rw[← aZ])
  try simp only[Act.put]
  refine bodyPost_ret (v:=.agg #[.slice none 0 0]) (by simp[results,Tryz.results54,asAddr,run_loadVar_mid (P:=Tryz.prog) _ _ _ 26 [.slice none 0 0] _ dP Tryz.underlying26 rfl (by kernel_rfl)]) rfl ?_;rw[Tm.out];exact⟨[.slice none 0 0],[],rfl,.emp _ _ _ rfl .nil,XL,by simp,fm.out⟩
 replace Bb:=uh (Bb.out rfl)
 have Tm:Hid (R=s.map (fun x:Pl.Bl=>(⟨x.kind,x.name,Pl.filled x.kind x.lines⟩:Pl.Bl))):=zd.out;have Mx:=uh (Fb w1);go_wp2_with fail
 refine Mx.out.mono ?_;rintro e w2 ⟨mb,vt,vb,vs,rfl,dy,hb⟩;obtain⟨w3,kf⟩:∃ w3,w3=w2.alloc (.cells #[.map (some mb)] 121):=⟨_,rfl⟩
 obtain⟨b3,ku⟩:∃ b,b=w2.heap.size:=⟨_,rfl⟩
 have jh:Bel w2 w3:=by rw[kf];exact af zR _
 have pG:Hid (au w3 b3 [.map (some mb)]):=by show au _ _ _;rw[kf,ku];exact au.new w2 #[.map (some mb)] _ _ rfl
 have HK:=uh (dy.later jh);have pd:=ae hb jh;replace HB:=uh (ae HB.out pd)
 replace dX:=uh (dX.out.later pd)
 replace lS:=uh (lS.out.later pd)
 replace HO:=uh (HO.out.later pd)
 replace Cm:=uh (Xg Cm.out pd.size)
 clear dy hb jh pd Mx;go_upto_region 4 with fail
 rw[← kf,← ku];clear kf ku;have HC:=uh (G7 s (.slice va n vc) (b0+1) b3 w3 (by rw[HN.out];exact HL.out.later HB.out) (by have:=Bb.out;have:=HN.out;omega) (fun x=>⟨x.kind,x.name,Pl.filled x.kind x.lines⟩) (fun x aw cw X hx hX hr=>Km x aw cw (b0+1) b3 mb vt vb vs X ((lS.out.later hX).get 0 _ rfl) (lS.out.later hX).lt ((pG.out.later hX).get 0 _ rfl) (pG.out.later hX).lt (HK.out.later hX) hr (kB.out x hx)));have x0:=dX.out.get 0 _ rfl;have xl:=dX.out.lt;go_wp2_with fail
 refine HC.out.mono ?_;rintro e w4 ⟨v4,F,rfl,r,nd,fr,hb⟩;obtain⟨a4,c4,WZ⟩:=r.raw.aT;subst WZ;have HR:=uh (Xt r (Xt nd fr));replace HO:=uh (HO.out.later hb)
 replace HB:=uh (ae HB.out hb)
 have HF:Hid (∀ b∈F,b0+3≤b):=fun b hb=>Xg Cm.out (HR.out.2.2 b hb);clear r nd fr hb x0 xl HC;obtain⟨q,hq⟩:∃ q,q=(s.map (fun x:Pl.Bl=>(⟨x.kind,x.name,Pl.filled x.kind x.lines⟩:Pl.Bl))):=⟨_,rfl⟩
 rw[← hq]at HR Tm;rw[← hq];clear hq;have bJ:w4.there (b0+2) 0 (#[.slice a4 q.length c4]:Array Value).size:=aX HO.out _ _ (by simp);obtain⟨we,aZ⟩:∃ we,we=w4.setCells (b0+2) 0 [.slice a4 q.length c4]:=⟨_,rfl⟩
 have dP:we.rangeAt (b0+2) 0 [.slice a4 q.length c4]:=by rw[aZ];exact World.rangeAt_setCells_same _ _ _ _ bJ
 have jK:Hid (Marks (fun b=>b=b0+2) w4 we):=by show Marks _ _ _;rw[aZ];exact bf (S:=fun b=>b=b0+2) rfl _ _ _
 have fm:Hid (Bel w we):=by show Below _ _ _;rw[aZ];exact bW (by have:=HZ.out;omega) _ _ _ HB.out
 go_wp2_with (refine wpList_store_mid rfl 26 _ _ rfl (b0+2) 0 #[.slice a4 q.length c4] rfl rfl bJ (by kernel_rfl) (by simp[Value.oneCell']) ?_)
 first|rw[← aZ]|(simp only[Xi];rw[← aZ])
 try simp only[Act.put]
 refine bodyPost_ret (v:=.agg #[.slice a4 q.length c4]) (by simp[results,Tryz.results54,asAddr,run_loadVar_mid (P:=Tryz.prog) _ _ _ 26 [.slice a4 q.length c4] _ dP Tryz.underlying26 rfl (by kernel_rfl)]) rfl ?_;have M2:=HR.out.1.cO jK.out (fun b hb e=>by have:=HF.out b hb;omega);rw[Tm.out];exact⟨[.slice a4 q.length c4],F,rfl,M2,HR.out.2.1,fun b hb=>by have:=HF.out b hb;have:=HZ.out;omega,fm.out⟩
theorem xg (s:List Pl.Bl) (v:Value) (w:World) (h:Raw w bL [cq s] [v]) (hz:oi s) (nK:∀ b∈s,b.lines.length≤1048576∧∀ x∈b.lines,x.ws.length≤4194304):
  Calls Tryz.prog 33 #[.agg #[v]] w (Ans ee [cq (if Pl.bw s then s.map (fun x=>⟨x.kind,x.name,Pl.filled x.kind x.lines⟩) else [])] w):=by
 obtain⟨va,vc,ev⟩:=h.aT;subst ev;obtain⟨n,hn⟩:∃ n,n=s.length:=⟨_,rfl⟩
 obtain⟨b0,aU⟩:∃ b,b=w.heap.size:=⟨_,rfl⟩
 have HZ:=uh aU;rw[← hn]at h;rw[← hn];obtain⟨wa,aP⟩:∃ wa,wa=(w.alloc (.cells #[.slice va n vc] 26)).alloc (.cells #[.slice none 0 0] 26):=⟨_,rfl⟩
 have HB:Hid (Bel w wa):=by show Below _ _ _;rw[aP];exact af (af zR _) _
 have dX:Hid (au wa b0 [.slice va n vc]):=by show au _ _ _;rw[aP,aU];exact(au.new w #[.slice va n vc] _ _ rfl).eO _
 have HO:Hid (aN wa (b0+1) 26 1):=by show aN _ _ _ _;rw[aP];exact aN.eL _ _ _ _ _ rfl (by simp[aU])
 have ZA:Hid (wa.heap.size=b0+2):=by show _=_;rw[aP];simp[aU]
 have HC:=uh (FP s (.slice va n vc) wa (h.later HB.out) hz nK);clear hn h hz nK;obtain⟨q,hq⟩:∃ q,q=(if Pl.bw s then s.map (fun x:Pl.Bl=>(⟨x.kind,x.name,Pl.filled x.kind x.lines⟩:Pl.Bl)) else []):=⟨_,rfl⟩
 rw[← hq]at HC;rw[← hq];clear hq;go_enter Tryz.func33,Tryz.ntmps33
 go_upto_region 1 with fail
 rw[← aP,← aU];clear aP aU;have xa:=dX.out.at_;have x0:=dX.out.get 0 _ rfl;have xl:=dX.out.lt;go_wp2_with fail
 refine HC.out.mono ?_;rintro e w4 ⟨cc,F,rfl,r0,nd,fr,hb⟩;obtain⟨F0,v4,hF0,rfl,r⟩:=ix r0;rw[Xl]at hF0;subst hF0;obtain⟨a4,c4,WZ⟩:=r.raw.aT;subst WZ;have HR:=uh (Xt r (Xt nd fr));replace HO:=uh (HO.out.later hb)
 replace HB:=uh (ae HB.out hb)
 have HF:Hid (∀ b∈F,b0+2≤b):=fun b hb=>by have:=ZA.out;have:=HR.out.2.2 b hb;omega
 clear r r0 nd fr hb x0 xl xa HC;have bJ:w4.there (b0+1) 0 (#[.slice a4 q.length c4]:Array Value).size:=aX HO.out _ _ (by simp);obtain⟨we,aZ⟩:∃ we,we=w4.setCells (b0+1) 0 [.slice a4 q.length c4]:=⟨_,rfl⟩
 have dP:we.rangeAt (b0+1) 0 [.slice a4 q.length c4]:=by rw[aZ];exact World.rangeAt_setCells_same _ _ _ _ bJ
 have jK:Hid (Marks (fun b=>b=b0+1) w4 we):=by show Marks _ _ _;rw[aZ];exact bf (S:=fun b=>b=b0+1) rfl _ _ _
 have fm:Hid (Bel w we):=by show Below _ _ _;rw[aZ];exact bW (by have:=HZ.out;omega) _ _ _ HB.out
 go_wp2_with (refine wpList_store_mid rfl 26 _ _ rfl (b0+1) 0 #[.slice a4 q.length c4] rfl rfl bJ (by kernel_rfl) (by simp[Value.oneCell']) ?_)
 first|rw[← aZ]|(simp only[Xi];rw[← aZ])
 try simp only[Act.put]
 refine bodyPost_ret (v:=.agg #[.slice a4 q.length c4]) (by simp[results,Tryz.results33,asAddr,run_loadVar_mid (P:=Tryz.prog) _ _ _ 26 [.slice a4 q.length c4] _ dP Tryz.underlying26 rfl (by kernel_rfl)]) rfl ?_;have M2:=HR.out.1.cO jK.out (fun b hb e=>by have:=HF.out b hb;omega);exact⟨[.slice a4 q.length c4],F,rfl,M2,HR.out.2.1,fun b hb=>by have:=HF.out b hb;have:=HZ.out;omega,fm.out⟩
def BR (b n:Nat) (W:World):Prop:=n≤W.heap.size∧∃ p v,aA W b dv [p,v]∧∀ q,v.ownBlock=some q→n≤q
structure KY (b:Nat) (A B:World):Prop where
 os:B.os=A.os
 tape:B.tape=A.tape
 output:B.output=A.output
 size:A.heap.size≤B.heap.size
 row:∀ n,BR b n A→BR b n B∧∀ p o,p<n→p≠b→A.heap[p]? =some o→o.isCells=true→B.heap[p]? =some o
theorem KY.trans {b:Nat} {A B C:World} (h:KY b A B) (k:KY b B C):KY b A C:=
 ⟨k.os.trans h.os,k.tape.trans h.tape,k.output.trans h.output,Xg h.size k.size,fun n hn=>⟨(k.row n (h.row n hn).1).1,fun p o hp hb ho hc=>(k.row n (h.row n hn).1).2 p o hp hb ((h.row n hn).2 p o hp hb ho hc) hc⟩⟩
theorem aA.isC {W:World} {p:Nat} {u:TypeId} {cs:List Value} (h:aA W p u cs):∃ o,W.heap[p]? =some o∧o.isCells=true:=by
 obtain⟨c,h1,_⟩:=h.own;exact⟨_,h1,rfl⟩
theorem KY.put {b:Nat} (W:World) (l:Nat) (o o':Obj) (h:W.heap[l]? =some o) (hc:o.isCells=false):KY b W (W.putObj l o'):=by
 have hg:=grownBy_putObj' W l o';refine⟨hg.os,hg.tape,hg.output,hg.size,fun n hn=>⟨?_,fun p ob hp hb ho lN=> ?_⟩⟩
 ·obtain⟨h1,p,v,h2,h3⟩:=hn;refine⟨Xg h1 hg.size,p,v,h2.rN hg (fun e=> ?_),h3⟩;injection e with e
  subst e;obtain⟨ob,q1,q2⟩:=h2.isC;rw[h]at q1;injection q1 with q1
  subst q1;rw[hc]at q2;cases q2
 ·refine(hg.block p (Xh.1 ho).1 (fun e=> ?_)).trans ho;injection e with e
  subst e;rw[h]at ho;injection ho with ho
  subst ho;rw[hc]at lN;cases lN
theorem KY.frm {b n:Nat} {A B:World} (h:KY b A B) (hn:BR b n A):Frm (fun p=>p=b∨n≤p∨∀ o,A.heap[p]? =some o→o.isCells=false) A B:=
 ⟨h.os,h.tape,h.output,h.size,fun p hp hs=>by
  have ho:A.heap[p]? =some A.heap[p]:=Array.getElem?_eq_getElem hp;have hc:(A.heap[p]).isCells=true:=by
   cases q:(A.heap[p]).isCells
   ·exact absurd (Xk (Xk fun o e=>by rw[ho]at e;injection e with e;rw[← e];exact q)) hs
   ·rfl
  rw[(h.row n hn).2 p _ (by
   by_cases q:p<n
   ·exact q
   ·exact absurd (Xk (No (by omega))) hs) (fun e=>hs (No e)) ho hc,ho]⟩
theorem KY.bB {b:Nat} {A B:World} (h:Bel A B):KY b A B:=
 ⟨h.os,h.tape,h.output,h.size,fun n hn=>⟨⟨Xg hn.1 h.size,by obtain⟨p,v,h1,h2⟩:=hn.2;exact⟨p,v,h1.later h,h2⟩⟩,fun p o hp _ ho _=>(h.block p (Xh.1 ho).1).trans ho⟩⟩
theorem Nl (B b:Nat) (l:List UInt8) (s:ByteArray) (w:World) (h:BW B b l w) (hBw:B≤w.heap.size) (dr:l.length+s.size≠0) (kZ:l.length+s.size≤1099511627776):
  Calls Tryz.prog 12 #[.pointer (some ⟨b,0,none⟩),.string s] w fun e w'=>e=.returned (.tuple #[.int .i64 (s.size:Nat),.nilIface])∧BW B b (l++s.data.toList) w'∧KY b w w'∧Below B w w'∧KeepsOthers w w':=by
 obtain⟨hB,p,v,hp,fL,eS,_⟩:=h;have HC:=uh (rB b p v w hp fL);have jk:=uh fL;obtain⟨ns,il,y9,VO,hn4⟩:∃ ns,(∀ q,v.ownBlock=some q→ns≤q)∧ns≤w.heap.size∧B≤ns∧∀ n,n≤w.heap.size→(∀ q,v.ownBlock=some q→n≤q)→n≤ns:=by
  cases hv:v.ownBlock with
  |none=>exact⟨w.heap.size,fun q e=>(by cases e),zE,hBw,fun n hn _=>hn⟩
  |some q=>exact⟨q,fun q' e=>by injection e with e;omega,Nat.le_of_lt (aW eS hv).2,(aW eS hv).1,fun n _ h=>h q rfl⟩
 have S0:By w ns v l:=⟨eS.1,eS.2.imp id fun ⟨g,cap,cur,h1,h2,h3⟩=>⟨g,cap,cur,h1,il g (by rw[h1];rfl),h3⟩⟩
 have Pf:=uh S0;have Og:=uh (Xt il (Xt y9 (Xt VO hn4)));have Ju:Hid (l++s.data.toList≠ []):=fun e=>by
  have:=congrArg List.length e;rw[At,Pl.aD,XX]at this;omega
 clear fL eS hp dr S0 il y9 VO hn4 hBw;go_enter Tryz.func12,Tryz.ntmps12
 go_wp2_with fail
 refine HC.out.mono ?_;rintro e w1 ⟨rfl,wF,lO⟩;have p5:v.ownBlock≠some b:=Pf.out.ne jk.out uj;have Je:=uh wF;have pT:=uh lO;have wh:Hid (By w1 ns v l):=Pf.out.mks lO (fun q hq e=>p5 (by rw[hq,e]));have cX:ns≤w1.heap.size:=Xg Og.out.2.1 lO.size;have c1:=wF.get 1 _ rfl;have bq:=wF.own.lt;obtain⟨a1,k1,e1⟩:=Pf.out.shape;subst e1;clear wF lO HC;go_wp2_with (refine Fy rfl (.tmp 12) (.tmp 13) rfl ns (.slice a1 l.length k1) l rfl wh.out s rfl kZ cX ?_;intro v' w2 AM pV;obtain⟨a2,k2,e2⟩:=AM.shape;rw[At,Pl.aD]at e2;subst e2;have Jj:=uh AM;have k6:=uh pV;have sy:=uh (Je.out.rN pV (wh.out.ne Je.out uj));have c2:=sy.out.get 1 _ rfl;have su:=sy.out.own.lt;have Ui:=sy.out.own.frozen 1;clear AM pV c1 bq)
 go_ret2;have tg:Marks (fun x=>x=b) w2 (w2.setCell ⟨b,1,none⟩ (.slice a2 (l.length+s.size) k2)):=Marks.sc (S:=fun x=>x=b) w2 rfl 1 _;have LM:=sy.out.set 1 (.slice a2 (l.length+s.size) k2) (by simp);have Pg:By (w2.setCell ⟨b,1,none⟩ (.slice a2 (l.length+s.size) k2)) ns (.slice a2 (l.length+s.size) k2) (l++s.data.toList):=Jj.out.mks tg (fun q hq e=>Jj.out.ne sy.out uj (by rw[hq,e]));refine⟨rfl,⟨hB,_,_,Xk rfl,LM,⟨Pg.1,Pg.2.imp id fun ⟨g,cap,cur,h1,h2,h3⟩=>⟨g,cap,cur,h1,Xg Og.out.2.2.1 h2,h3⟩⟩,fun e=>absurd e Ju.out⟩,⟨tg.os.trans (k6.out.os.trans pT.out.os),tg.tape.trans (k6.out.tape.trans pT.out.tape),tg.output.trans (k6.out.output.trans pT.out.output),Xg pT.out.size (Xg k6.out.size tg.size),fun n hn=> ?_⟩, ?_, ?_⟩
 ·obtain⟨h1,p',v',h2,h3⟩:=hn;have hv:v'=.slice a1 l.length k1:=by
   have e1:=h2.get 1 _ rfl;have e2:=jk.out.get 1 _ rfl;rw[e1]at e2;injection e2
  subst hv;have hns:=Og.out.2.2.2 n h1 h3;refine⟨⟨Xg h1 (Xg pT.out.size (Xg k6.out.size tg.size)),_,_,LM,fun q hq=>Xg hns (aW Pg hq).1⟩,fun q o hq TP ho lN=> ?_⟩;have Us:=(Xh.1 ho).1;have q1:=(pT.out.block q Us TP).trans ho;have P1:=(Xh.1 q1).1;have q2:=(k6.out.block q P1 (fun e=>by have:=h3 q e.symm;omega)).trans q1;exact(tg.block q (Xh.1 q2).1 TP).trans q2
 ·have q1:Below B w w1:=⟨pT.out.os,pT.out.tape,pT.out.output,pT.out.size,fun k hk=>pT.out.block k (by have:=Og.out.2.1;have:=Og.out.2.2.1;omega) (by omega)⟩
  have q2:Below B w w2:=Below.grown q1 k6.out (Xg Og.out.2.2.1 cX) fun q hq=>by have:=(aW wh.out hq).1;have:=Og.out.2.2.1;omega
  exact q2.setCell (p:=⟨b,1,none⟩) hB _
 ·refine⟨Xg pT.out.size (Xg k6.out.size tg.size),fun k o hk ho=> ?_⟩;have jP:k≠b:=fun e=>by
   obtain⟨o',q1,q2⟩:=jk.out.isC;rw[← e,hk]at q1;injection q1 with q1
   rw[q1,q2]at ho;cases ho
  have h1:=(pT.out.block k (Xh.1 hk).1 jP).trans hk;have h2:=(k6.out.block k (Xh.1 h1).1 (fun e=>by
   obtain⟨_,cur,q1⟩:=cC wh.out e.symm;rw[h1]at q1;injection q1 with q1
   rw[q1]at ho;cases ho)).trans h1
  exact(tg.block k (Xh.1 h2).1 jP).trans h2
theorem T3 (B b:Nat) (l:List UInt8) (w:World) (h:BW B b l w) (kZ:l.length≤1099511627776):
  Calls Tryz.prog 13 #[.pointer (some ⟨b,0,none⟩)] w fun e w'=>e=.returned (.string ⟨l.toArray⟩)∧Below B w w'∧KeepsOthers w w':=by
 obtain⟨hB,p,v,hp,fL,eS,h0⟩:=h;have bq:b<w.drew.heap.size:=fL.own.lt;by_cases hl:l=[]
 ·have hv:=h0 hl;subst hv;subst hl;have c1:w.drew.cell? ⟨b,1,none⟩=some (.slice none 0 0):=fL.get 1 _ rfl;have UY:(Builtin.unsafeSliceData_ #[43] 82 #[.slice none 0 0]).run Tryz.prog w.drew=.ok (.pointer none) w.drew:=Lib.run_unsafeSliceData_nil _ _ _ _ _;have U6:(Builtin.unsafeString_ #[82,3] 9 #[.pointer none,.int .i64 0]).run Tryz.prog w.drew=.ok (.string .empty) w.drew:=Lib.run_unsafeString_none _ _ _ _ _;have HB:Hid (Below B w w.drew∧KeepsOthers w w.drew):=⟨XF zR,zE,fun _ _ h _=>h⟩
  clear fL eS h0 hp;go_enter Tryz.func13,Tryz.ntmps13
  go_wp2;have mixed:Tryz.prog.follows .mixedOrders=true:=by kernel_rfl
  go_region_o
  all_goals (go_wp2;go_ret;exact⟨rfl,HB.out⟩)
 ·have wL:l.length≠0:=fun e=>hl (Xs e);obtain⟨g,cap,cur,rfl,UZ,hg,P2,uK,jn,yR⟩:∃ g cap cur,v=.slice (some ⟨g,0,none⟩) l.length cap∧B≤g∧w.heap[g]? =some (.cells cur 5 (0,0))∧l.length≤cap∧cap≤maxLen∧cur.size=cap*1∧cur.toList.take (l.length*1)=Pl.byV l:=by
   rcases eS.2 with⟨_,hz⟩|⟨g,cap,cur,hv,r⟩
   ·exact absurd hz wL
   ·exact⟨g,cap,cur,hv,r⟩
  have c1:w.drew.cell? ⟨b,1,none⟩=some (.slice (some ⟨g,0,none⟩) l.length cap):=fL.get 1 _ rfl;have UY:(Builtin.unsafeSliceData_ #[43] 82 #[.slice (some ⟨g,0,none⟩) l.length cap]).run Tryz.prog w.drew=.ok (.pointer (some ⟨g,0,none⟩)) w.drew:=Lib.run_unsafeSliceData_row _ _ _ _ _ _ (by omega);have U6:(Builtin.unsafeString_ #[82,3] 9 #[.pointer (some ⟨g,0,none⟩),.int .i64 l.length]).run Tryz.prog w.drew=.ok (.string ⟨l.toArray⟩) (w.drew.freeze ⟨g,0,none⟩ l.length):=by
   refine Lib.run_unsafeString_row w.drew 82 3 9 5 Tryz.tM Tryz.qJ g cur.size (by have yX:w.drew.heap[g]? =some (.cells cur 5 (0,0)):=hg;simp[World.shape?,yX]) l hl (by omega) (by omega) ?_;intro j x hx;have N7:(Pl.byV l)[j]? =some (.int .u8 (x.toNat:Int)):=by simp[Pl.byV,hx]
   have wH:j<l.length:=(Xn.1 hx).1;have q:cur.toList[j]? =some (.int .u8 (x.toNat:Int)):=by rw[← N7,← yR,XO,if_pos (by omega)]
   rw[show (Addr.add ⟨g,0,none⟩ j)=⟨g,j,none⟩ by rw[Addr.add_mid,Xr]];have yX:w.drew.heap[g]? =some (.cells cur 5 (0,0)):=hg;simp only[World.cell?,yX];simpa using q
  have HB:Hid (Below B w (w.drew.freeze ⟨g,0,none⟩ l.length)∧KeepsOthers w (w.drew.freeze ⟨g,0,none⟩ l.length)):=by
   have MN:=Lib.below_freeze (XF (Below.refl B w)) (p:=⟨g,0,none⟩) UZ l.length;refine⟨MN,MN.size,fun k o hk ho=> ?_⟩;have RR:g≠k:=fun e=>by
    rw[← e,hg]at hk;injection hk with hk
    rw[← hk]at ho;cases ho
   unfold World.freeze;split
   ·exact hk
   ·simp only[YM];rw[if_neg RR];exact hk
  clear fL eS h0 hp hg jn yR hl uK P2;go_enter Tryz.func13,Tryz.ntmps13
  go_wp2;have mixed:Tryz.prog.follows .mixedOrders=true:=by kernel_rfl
  go_region_o
  all_goals (go_wp2;go_ret;exact⟨rfl,HB.out⟩)
namespace Pl
theorem Dk {kind key:ByteArray} {ws:List ByteArray} (h:bH kind key ws=true):∃ j,bP (ah kind) key=some j:=by
 unfold bH at h;cases hj:bP (ah kind) key with
 |none=>rw[hj]at h;simp at h
 |some j=>exact⟨j,rfl⟩
end Pl
theorem ue {α:Type} {lt:α→α→Bool} (irr:∀ a,lt a a=false) (tr:∀ a b c,lt a b=true→lt b c=true→lt a c=true):∀ (x y:List α),x.Pairwise (fun a b=>lt a b=true)→y.Pairwise (fun a b=>lt a b=true)→(∀ z,z∈x↔z∈y)→x=y
 |[],[],_,_,_=>rfl
 |[],b::y,_,_,h=>by have:=(h b).2 (by simp);cases this
 |a::x,[],_,_,h=>by have:=(h a).1 (by simp);cases this
 |a::x,b::y,hx,hy,h=>by
  rw[List.pairwise_cons]at hx hy;have e:a=b:=by
   rcases XD.1 ((h a).1 (by simp)) with e|e
   ·exact e
   ·rcases XD.1 ((h b).2 (by simp)) with q|q
    ·exact q.symm
    ·have h1:=hy.1 a e;have h2:=hx.1 b q;have:=tr _ _ _ h1 h2;rw[irr]at this;cases this
  subst e;refine congrArg _ (ue irr tr x y hx.2 hy.2 fun z=>⟨fun hz=> ?_,fun hz=> ?_⟩)
  ·rcases XD.1 ((h z).1 (Yt _ hz)) with e|e
   ·subst e;have:=hx.1 z hz;rw[irr]at this;cases this
   ·exact e
  ·rcases XD.1 ((h z).2 (Yt _ hz)) with e|e
   ·subst e;have:=hy.1 z hz;rw[irr]at this;cases this
   ·exact e
theorem Nj (kind:ByteArray) (a:Pl.Ln):Pl.aL kind a a=false:=by
 cases h:Pl.aL kind a a
 ·rfl
 ·have h1:=((pj kind).neg a a).2 h;have:cQ (Pl.ah kind) a a=0:=by
   show fR (eo _ _) (db _ _)=0;unfold fR;rw[if_pos ((cH _ _).2 rfl)];exact(gw _ _).2 rfl
  omega
def xu (rs:List Pl.Ru):Bool:=(List.range rs.length).all fun i=>Pl.ixI (Pl.bP rs (rs.getD i Pl.bu).key)==(i:Int)
theorem De (kind:ByteArray):xu (Pl.ah kind)=true:=by
 unfold Pl.ah;split
 ·decide+kernel
 ·split
  ·decide+kernel
  ·split<;>decide+kernel
theorem nx {kind:ByteArray} {i:Nat} (hi:i<(Pl.ah kind).length):Pl.ez kind ((Pl.ah kind).getD i Pl.bu).key=(i:Int):=by
 have h:=De kind;unfold xu at h;rw[Xu]at h;have:=h i (XV.2 hi);exact by simpa [Pl.ez]using this
theorem se (kind:ByteArray):(Pl.ah kind).Pairwise fun a b=>Pl.ez kind a.key<Pl.ez kind b.key:=by
 rw[YO];intro i j hi hj ID;have e1:(Pl.ah kind).getD i Pl.bu=(Pl.ah kind)[i]:=by simp[hi]
 have e2:(Pl.ah kind).getD j Pl.bu=(Pl.ah kind)[j]:=by simp[hj]
 rw[← e1,← e2,nx hi,nx hj];omega
theorem oq {l:List Pl.Ln} {key:ByteArray} {x:Pl.Ln}:x∈Pl.aO l key↔x∈l∧x.key=key:=by
 unfold Pl.aO;rw[YD];constructor
 ·exact fun h=>⟨h.1,fv h.2⟩
 ·exact fun h=>⟨h.1,by rw[h.2];simp⟩
theorem ll {r:Pl.Ru} {l:List Pl.Ln} {x:Pl.Ln}:x∈Pl.dV r l↔(x∈l∧x.key=r.key)∨(r.many=false∧(∀ y∈l,y.key≠r.key)∧x=⟨r.key,r.dflt⟩):=by
 have K5:(Pl.aO l r.key).length=0↔∀ y∈l,y.key≠r.key:=by
  rw[List.length_eq_zero_iff];constructor
  ·intro h y hy e;have:=(oq (l:=l) (key:=r.key)).2 ⟨hy,e⟩;rw[h]at this;cases this
  ·intro h;rw[List.eq_nil_iff_forall_not_mem];intro y hy;exact h y (oq.1 hy).1 (oq.1 hy).2
 unfold Pl.dV;split
 ·rename_i h
  rw[Xj,decide_eq_true_iff,Yw]at h;rw[Yc];constructor
  ·exact fun e=>Xk ⟨h.2,K5.1 h.1,e⟩
  ·rintro(⟨h1,h2⟩|⟨_,_,e⟩)
   ·exact absurd h2 (K5.1 h.1 x h1)
   ·exact e
 ·rename_i h
  rw[Xj,decide_eq_true_iff,Yw]at h;rw[oq];constructor
  ·exact No
  ·rintro(q|⟨h1,h2,_⟩)
   ·exact q
   ·exact absurd ⟨K5.2 h2,h1⟩ h
theorem um {r:Pl.Ru} {l:List Pl.Ln} {x:Pl.Ln} (h:x∈Pl.dV r l):x.key=r.key:=by
 rcases ll.1 h with⟨_,e⟩|⟨_,_,e⟩
 ·exact e
 ·rw[e]
theorem zH {kind:ByteArray} {l:List Pl.Ln} (h:l.Pairwise fun a b=>Pl.aL kind a b=true) (r:Pl.Ru):(Pl.dV r l).Pairwise fun a b=>Pl.aL kind a b=true:=by
 unfold Pl.dV;split
 ·simp
 ·exact h.sublist List.filter_sublist
theorem EM {kind:ByteArray} {a b:Pl.Ln} (h:Pl.ez kind a.key<Pl.ez kind b.key):Pl.aL kind a b=true:=by
 unfold Pl.aL;rw[decide_eq_true h];rfl
theorem xB {kind:ByteArray} {l:List Pl.Ln} (h:l.Pairwise fun a b=>Pl.aL kind a b=true):(Pl.filled kind l).Pairwise fun a b=>Pl.aL kind a b=true:=by
 unfold Pl.filled;rw[List.pairwise_flatMap];refine⟨fun r _=>zH h r,(se kind).imp fun {a b} TT x hx y hy=>EM ?_⟩;rw[um hx,um hy];exact TT
def Gp (kind:ByteArray) (l:List Pl.Ln):Prop:=∀ x∈l,∃ r∈Pl.ah kind,x.key=r.key
theorem Hz {kind:ByteArray} {l:List Pl.Ln} (h:Pl.dA kind l=true):Gp kind l:=fun x hx=>by
 obtain⟨j,hj⟩:=Pl.Dk (CL h x hx);have hl:=Pl.iV hj;refine⟨(Pl.ah kind).getD j Pl.bu, ?_,(GW hj).symm⟩;have e:(Pl.ah kind).getD j Pl.bu=(Pl.ah kind)[j]:=by simp[hl]
 rw[e];exact Xq hl
theorem Bm {kind:ByteArray} {a b:Pl.Ru} (ha:a∈Pl.ah kind) (hb:b∈Pl.ah kind) (h:Pl.ez kind a.key=Pl.ez kind b.key):a=b:=by
 obtain⟨i,hi,rfl⟩:=XZ ha;obtain⟨j,hj,rfl⟩:=XZ hb;have e1:(Pl.ah kind).getD i Pl.bu=(Pl.ah kind)[i]:=by simp[hi]
 have e2:(Pl.ah kind).getD j Pl.bu=(Pl.ah kind)[j]:=by simp[hj]
 rw[← e1,← e2,nx hi,nx hj]at h;have:i=j:=by omega
 subst this;rfl
theorem Aa {kind:ByteArray} {l:List Pl.Ln} (hl:Gp kind l) {x:Pl.Ln}:x∈Pl.filled kind l↔x∈l∨∃ r∈Pl.ah kind,r.many=false∧(∀ y∈l,y.key≠r.key)∧x=⟨r.key,r.dflt⟩:=by
 unfold Pl.filled;rw[List.mem_flatMap];constructor
 ·rintro⟨r,hr,hx⟩;rcases ll.1 hx with q|q
  ·exact No q.1
  ·exact Xk ⟨r,hr,q⟩
 ·rintro(h|⟨r,hr,q⟩)
  ·obtain⟨r,hr,e⟩:=hl x h;exact⟨r,hr,ll.2 (No ⟨h,e⟩)⟩
  ·exact⟨r,hr,ll.2 (Xk q)⟩
theorem FH {kind:ByteArray} {l:List Pl.Ln} (h:l.Pairwise fun a b=>Pl.aL kind a b=true) (t:Pl.Ln) (hn:∀ y∈l,cQ (Pl.ah kind) y t≠0):(Pl.bS kind l t).Pairwise fun a b=>Pl.aL kind a b=true:=by
 unfold Pl.bS;rw[lj (Pl.aL kind) l t];refine pl_pair (pj kind) Pl.aK h t fun q=> ?_;have e:l.getD (cS (Pl.aL kind) l t) Pl.aK=l[cS (Pl.aL kind) l t]'q.1:=by simp[q.1]
 exact hn _ (Xq q.1) (by rw[← e];exact q.2)
theorem C4 {kind:ByteArray} {a b:Pl.Ln} (h:cQ (Pl.ah kind) a b=0):Pl.ez kind a.key=Pl.ez kind b.key∧a.ws=b.ws:=by
 have h':fR (eo (Pl.ixI (Pl.bP (Pl.ah kind) a.key)) (Pl.ixI (Pl.bP (Pl.ah kind) b.key))) (db a.ws b.ws)=0:=h;unfold fR at h';split at h'
 ·rename_i q
  exact⟨(cH _ _).1 q,(gw _ _).1 h'⟩
 ·rename_i q;exact absurd h' q
theorem yi (kind:ByteArray) (l:List Pl.Ln) (hl:Gp kind l):∀ (rs pre:List Pl.Ru) (acc:List Pl.Ln),(pre++rs)=Pl.ah kind→acc.Pairwise (fun a b=>Pl.aL kind a b=true)→
  (∀ x,x∈acc↔x∈l∨∃ r∈pre,r.many=false∧(∀ y∈l,y.key≠r.key)∧x=⟨r.key,r.dflt⟩)→
  (Pl.dq kind acc rs).Pairwise (fun a b=>Pl.aL kind a b=true)∧∀ x,x∈Pl.dq kind acc rs↔x∈l∨∃ r∈pre++rs,r.many=false∧(∀ y∈l,y.key≠r.key)∧x=⟨r.key,r.dflt⟩
 |[],pre,acc,_,hp,hm=>by rw[Xl];exact⟨hp,hm⟩
 |r::rs,pre,acc,bA,hp,hm=>by
  have hr:r∈Pl.ah kind:=by rw[← bA];simp
  have Rn:∀ q∈pre,q∈Pl.ah kind:=fun q hq=>by rw[← bA];simp[hq]
  have MT:∀ q∈pre,q.key≠r.key:=fun q hq e=>by
   have h1:=se kind;rw[← bA,List.pairwise_append]at h1;have:=h1.2.2 q hq r (by simp);rw[e]at this;omega
  have Im:(Pl.aO acc r.key).length=0↔∀ y∈l,y.key≠r.key:=by
   rw[List.length_eq_zero_iff,List.eq_nil_iff_forall_not_mem];constructor
   ·intro h y hy e;exact h y (oq.2 ⟨(hm y).2 (No hy),e⟩)
   ·intro h y hy;obtain⟨h1,h2⟩:=oq.1 hy;rcases(hm y).1 h1 with q|⟨p,Cg,_,_,e⟩
    ·exact h y q h2
    ·exact MT p Cg (by rw[e]at h2;exact h2)
  have e0:Pl.dq kind acc (r::rs)=Pl.dq kind (Pl.dJ kind acc r) rs:=rfl;have e1:pre++r::rs=(pre++[r])++rs:=by simp
  rw[e0,e1];refine yi kind l hl rs (pre++[r]) _ (by rw[← bA];simp) ?_ ?_
  ·unfold Pl.dJ;split
   ·rename_i hc
    rw[Xj,decide_eq_true_iff,Yw]at hc;refine FH hp _ fun y hy e=> ?_;have h1:=(C4 e).1;rcases(hm y).1 hy with q|⟨p,Cg,_,_,e2⟩
    ·obtain⟨r',SK,e'⟩:=hl y q;rw[e']at h1;have:=Bm SK hr h1;exact Im.1 hc.2 y q (by rw[e',this])
    ·rw[e2]at h1;have:=Bm (Rn p Cg) hr h1;exact MT p Cg (by rw[this])
   ·exact hp
  ·intro x;unfold Pl.dJ;split
   ·rename_i hc
    rw[Xj,decide_eq_true_iff,Yw]at hc;rw[Pl.lz,hm];constructor
    ·rintro(e|e|⟨p,Cg,q⟩)
     ·exact Xk ⟨r,by simp,hc.1,Im.1 hc.2,e⟩
     ·exact No e
     ·exact Xk ⟨p,by simp[Cg],q⟩
    ·rintro(e|⟨p,Cg,q⟩)
     ·exact Xk (No e)
     ·rcases XC.1 Cg with h1|h1
      ·exact Xk (Xk ⟨p,h1,q⟩)
      ·rw[Yc]at h1;subst h1;exact No q.2.2
   ·rename_i hc
    rw[Xj,decide_eq_true_iff,Yw]at hc;rw[hm];constructor
    ·rintro(e|⟨p,Cg,q⟩)
     ·exact No e
     ·exact Xk ⟨p,by simp[Cg],q⟩
    ·rintro(e|⟨p,Cg,q⟩)
     ·exact No e
     ·rcases XC.1 Cg with h1|h1
      ·exact Xk ⟨p,h1,q⟩
      ·rw[Yc]at h1;subst h1;exact absurd ⟨q.1,Im.2 q.2.1⟩ hc
theorem CV {kind:ByteArray} {l:List Pl.Ln} (h:Pl.dA kind l=true):Pl.filled kind l=Pl.dq kind l (Pl.ah kind):=by
 have hr:=Hz h;have hp:=Ai h;obtain⟨h1,h2⟩:=yi kind l hr (Pl.ah kind) [] l rfl hp (fun x=>by simp);refine ue (Nj kind) (pj kind).tr _ _ (xB hp) h1 fun z=> ?_;rw[Aa hr,h2 z];simp
theorem fill_eq (s:List Pl.Bl):(if Pl.bw s then s.map (fun x=>(⟨x.kind,x.name,Pl.filled x.kind x.lines⟩:Pl.Bl)) else [])=Pl.bN s:=by
 unfold Pl.bN;cases hv:Pl.bw s
 ·rfl
 ·simp only[if_true];refine List.map_congr_left fun x hx=> ?_;rw[CV (xX hv x hx)];rfl
namespace Pl
def ki (line code:Nat):ByteArray:=if code=11 then (⟨#[58,32]⟩:ByteArray)++cg.getD code ⟨#[]⟩ else (⟨#[58]⟩:ByteArray)++⟨(Lib.decDigits line).toArray⟩++((⟨#[58,32]⟩:ByteArray)++cg.getD code ⟨#[]⟩)
theorem KG:∀ t∈cg,t.size≤100:=by decide
theorem Gl (i:Nat):(cg.getD i ⟨#[]⟩).size≤100:=by
 by_cases h:i<cg.length
 ·have e:cg.getD i ⟨#[]⟩=cg[i]:=by simp[h]
  rw[e];exact KG _ (Xq h)
 ·have e:cg.getD i (⟨#[]⟩:ByteArray)=⟨#[]⟩:=by simp[List.getD_eq_getElem?_getD,List.getElem?_eq_none (Nat.le_of_not_lt h)]
  rw[e];decide
theorem Fs (n:Nat) (h:n≤1000000000):(⟨(Lib.decDigits n).toArray⟩:ByteArray).size≤30:=by
 have:=Lib.itoa_length_le (n:Int) (by omega) (by omega);rw[Lib.itoa_nonneg]at this;show (Lib.decDigits n).toArray.size≤30;rw[Yx];omega
end Pl
theorem Nb:(#[.string {data:=#[]},.string {data:=#[97,32,119,111,114,100,32,116,104,97,116,32,105,115,32,110,111,110,101]},.string {data:=#[97,32,108,105,110,101,32,111,117,116,115,105,100,101,32,111,102,32,98,108,111,99,107,115]},.string {data:=#[110,111,32,115,117,99,104,32,107,105,110,100]},.string {data:=#[110,111,32,115,117,99,104,32,110,97,109,101]},.string {data:=#[110,111,32,115,117,99,104,32,107,101,121]},.string {data:=#[115,97,105,100,32,116,119,105,99,101]},.string {data:=#[110,111,116,32,119,104,97,116,32,116,104,101,32,107,101,121,32,116,97,107,101,115]},.string {data:=#[97,32,98,108,111,99,107,32,116,104,97,116,32,105,115,32,110,111,116,32,101,110,100,101,100]},.string {data:=#[97,32,98,108,111,99,107,32,97,103,97,105,110]},.string {data:=#[116,111,111,32,109,97,110,121]},.string {data:=#[116,111,111,32,108,111,110,103]}]:Array Value)=(Pl.cg.map Value.string).toArray:=rfl
theorem rP (line code:Nat) (h1:1≤code) (hc:code≤11) (hl:line≤1000000000) (w:World) (hIt:∀ X,Bel w X→Calls Tryz.prog 51 #[.int .i64 (line:Nat)] X fun e w'=>e=.returned (.string ⟨(Lib.decDigits line).toArray⟩)∧Bel X w'):
  Calls Tryz.prog 31 #[.agg #[.int .i64 (line:Nat),.int .i64 (code:Nat)]] w fun e w'=>e=.returned (.string (Pl.ki line code))∧Bel w w':=by
 obtain⟨R,hR⟩:∃ R,R=Pl.ki line code:=⟨_,rfl⟩
 have HR:Hid (R=if code=11 then (⟨#[58,32]⟩:ByteArray)++Pl.cg.getD code ⟨#[]⟩ else (⟨#[58]⟩:ByteArray)++⟨(Lib.decDigits line).toArray⟩++((⟨#[58,32]⟩:ByteArray)++Pl.cg.getD code ⟨#[]⟩)):=hR;rw[← hR];clear hR;have Rc:=uh hIt;have kk:=Pl.Fs line hl;have Ee:=Pl.Gl code;obtain⟨b0,aU⟩:∃ b,b=w.heap.size:=⟨_,rfl⟩
 obtain⟨wa,aP⟩:∃ wa,wa=(w.alloc (.cells #[.int .i64 (line:Nat),.int .i64 (code:Nat)] 28)).alloc (.cells #[.string {data:=#[]},.string {data:=#[97,32,119,111,114,100,32,116,104,97,116,32,105,115,32,110,111,110,101]},.string {data:=#[97,32,108,105,110,101,32,111,117,116,115,105,100,101,32,111,102,32,98,108,111,99,107,115]},.string {data:=#[110,111,32,115,117,99,104,32,107,105,110,100]},.string {data:=#[110,111,32,115,117,99,104,32,110,97,109,101]},.string {data:=#[110,111,32,115,117,99,104,32,107,101,121]},.string {data:=#[115,97,105,100,32,116,119,105,99,101]},.string {data:=#[110,111,116,32,119,104,97,116,32,116,104,101,32,107,101,121,32,116,97,107,101,115]},.string {data:=#[97,32,98,108,111,99,107,32,116,104,97,116,32,105,115,32,110,111,116,32,101,110,100,101,100]},.string {data:=#[97,32,98,108,111,99,107,32,97,103,97,105,110]},.string {data:=#[116,111,111,32,109,97,110,121]},.string {data:=#[116,111,111,32,108,111,110,103]}] 103):=⟨_,rfl⟩
 have HB:Hid (Bel w wa):=by show Below _ _ _;rw[aP];exact af (af zR _) _
 have HX:Hid (au wa b0 [.int .i64 (line:Nat),.int .i64 (code:Nat)]):=by show au _ _ _;rw[aP,aU];exact(au.new w #[.int .i64 (line:Nat),.int .i64 (code:Nat)] _ _ rfl).eO _
 obtain⟨tb,N8⟩:∃ t,t=Pl.cg.getD code ⟨#[]⟩:=⟨_,rfl⟩
 have Tc:Hid (wa.cell? ⟨b0+1,code,none⟩=some (.string tb)∧b0+1<wa.heap.size):=by
  refine⟨?_,by rw[aP,aU];simp⟩;rw[aP,Nb];refine(World.cell?_alloc_at _ _ _ _ (by simp[aU])).trans ?_;have:code<Pl.cg.length:=by show code<12;omega
  rw[N8];simp[this]
 rw[← N8]at HR Ee;obtain⟨dl,Ra⟩:∃ d:ByteArray,d=⟨(Lib.decDigits line).toArray⟩:=⟨_,rfl⟩
 rw[← Ra]at HR Rc kk;clear N8 Ra hIt;go_enter Tryz.func31,Tryz.ntmps31
 go_upto_region 2 with fail
 rw[← aP,← aU];clear aP aU;have x0:=HX.out.get 0 _ rfl;have x1:=HX.out.get 1 _ rfl;have xl:=HX.out.lt;have tc:=Tc.out.1;have tl:=Tc.out.2;have cZ:(0:Int)≤(code:Int):=by omega
 have dy:(code:Int)<12:=by omega
 have V3:tb.size≤9223372036854775807:=by omega
 have hd63:dl.size≤9223372036854775807:=by omega
 by_cases h11:code=11
 ·have Xf:(code:Int)=11:=by omega
  have HE:Hid (R=(⟨#[58,32]⟩:ByteArray)++tb):=by show R=_;rw[HR.out,if_pos h11]
  have UW:((code:Int)==11)=true:=by simp[h11]
  clear HR h11 Xf;go_wp2;go_ret;exact⟨by rw[HE.out];rfl,HB.out⟩
 ·have UW:((code:Int)==11)=false:=by simp;omega
  have HE:Hid (R=(⟨#[58]⟩:ByteArray)++dl++((⟨#[58,32]⟩:ByteArray)++tb)):=by show R=_;rw[HR.out,if_neg h11]
  clear HR h11;go_wp2_with fail
  refine(Rc.out wa HB.out).mono ?_;rintro e w1 ⟨rfl,cr⟩;have lS:=uh (ae HB.out cr);clear cr x0 x1 xl tc tl;go_wp2;go_ret;exact⟨by rw[HE.out];rfl,lS.out⟩
namespace Pl
def gu (c:Ch):ByteArray:=⟨(hdT c++unT c++ej c.lines c.lines.length).toArray⟩
abbrev Tel:={t:ByteArray // t.size≤60000000}
def BB:ByteArray:=⟨#[116,104,101,32,115,97,109,101]⟩
def kQ (a b:ByteArray):List ByteArray:=
 if (aI a).2.2≠0 then [CA++ki (aI a).2.1 (aI a).2.2]
 else if (aI b).2.2≠0 then [CD++ki (aI b).2.1 (aI b).2.2]
 else if (bY (bN (aI a).1) (bN (aI b).1)).length=0 then [BB]
 else (bY (bN (aI a).1) (bN (aI b).1)).map gu
def nlT (l:List ByteArray):List UInt8:=l.flatMap fun t=>t.data.toList++[10]
theorem EK (l:List ByteArray) (t:ByteArray):nlT (l++[t])=nlT l++(t.data.toList++[10]):=by
 unfold nlT;rw[Xv,XE]
theorem Br:∀ l:List Tel,(nlT (l.map (·.1))).length≤l.length*60000001
 |[]=>by simp[nlT]
 |t::l=>by
  have h1:=Br l;have h2:=t.2;rw[XS,nlT,XP,At,At];have h5:(t::l).length*60000001=l.length*60000001+60000001:=by rw[show (t::l).length=l.length+1 from rfl,Yh,Nat.one_mul]
  rw[h5];have h3:(List.flatMap (fun t=>t.data.toList++[10]) (List.map (·.1) l)).length≤l.length*60000001:=h1;have h4:t.1.data.toList.length=t.1.size:=aD _;simp only[Xm,XX];omega
theorem xY:∀ l:List ByteArray,(∀ t∈l,t.size≤60000000)→(nlT l).length≤l.length*60000001
 |[],_=>by simp[nlT]
 |t::l,h=>by
  have h1:=xY l (fun x hx=>h x (by simp[hx]));have h2:=h t (by simp);rw[nlT,XP,At,At];have h5:(t::l).length*60000001=l.length*60000001+60000001:=by rw[show (t::l).length=l.length+1 from rfl,Yh,Nat.one_mul]
  rw[h5];have h3:(List.flatMap (fun t=>t.data.toList++[10]) l).length≤l.length*60000001:=h1;have h4:t.data.toList.length=t.size:=aD _;simp only[Xm,XX];omega
theorem J5 (a b:ByteArray) (h:a.data.toList=b.data.toList):a=b:=by
 cases a;cases b;simp_all
theorem xU (l:List Ch):∀ k,k≤l.length→kb l k=nlT ((l.take k).map gu)
 |0,_=>rfl
 |k+1,h=>by
  rw[kb,xU l k (by omega),cp ie l k (by omega),Yr,nlT,nlT,Xv];simp[chT,gu]
theorem xj (nm:ByteArray) (line code:Nat):iw nm line code=nm++ki line code++⟨#[10]⟩:=by
 unfold iw ki;split
 ·exact J5 _ _ (by simp[ByteArray.data_append])
 ·exact J5 _ _ (by simp[ByteArray.data_append])
theorem Dh (a b:ByteArray):(⟨(nlT (kQ a b)).toArray⟩:ByteArray)=fN a b:=by
 unfold kQ fN;by_cases h1:(aI a).2.2≠0
 ·rw[if_pos h1,if_pos h1,xj];exact J5 _ _ (by simp[nlT,ByteArray.data_append])
 ·rw[if_neg h1,if_neg h1];by_cases h2:(aI b).2.2≠0
  ·rw[if_pos h2,if_pos h2,xj];exact J5 _ _ (by simp[nlT,ByteArray.data_append])
  ·rw[if_neg h2,if_neg h2];obtain⟨D,hD⟩:∃ D,D=bY (bN (aI a).1) (bN (aI b).1):=⟨_,rfl⟩
   rw[← hD];have hk:=xU D D.length zE;rw[YG]at hk;unfold C2;by_cases h3:D.length=0
   ·have hn:D=[]:=Xs h3;subst hn;rfl
   ·have dr:¬ (kb D D.length).length=0:=by
     obtain⟨k,Aw⟩:∃ k,D.length=k+1:=⟨D.length - 1,by omega⟩
     rw[Aw,kb,At];unfold chT;simp only[At,Xm,XX];omega
    rw[if_neg h3,if_neg dr,hk]
theorem GB (a b:ByteArray):(kQ a b).length≤1000:=by
 unfold kQ;split
 ·simp
 ·split
  ·simp
  ·split
   ·simp
   ·rw[XT];exact qZ _ _
theorem BH (line code:Nat) (h:line≤1000000000):(ki line code).size≤200:=by
 have h1:=Gl code;have h2:=Fs line h;unfold ki;split
 ·rw[XU];have:(⟨#[58,32]⟩:ByteArray).size=2:=rfl;omega
 ·rw[XU,XU,XU];have:(⟨#[58,32]⟩:ByteArray).size=2:=rfl;have:(⟨#[58]⟩:ByteArray).size=1:=rfl;omega
theorem oO {c:Ch} (h:SmC c):(gu c).size≤50000000:=by
 have h1:=BU h;unfold chT at h1;rw[At]at h1;show (hdT c++unT c++ej c.lines c.lines.length).toArray.size≤_;rw[Yx];omega
end Pl
def VJi (xc:Nat) (yc:Nat) (N0:Nat) (xa:Option Addr) (ya:Option Addr) (s1:List Pl.Bl) (s2:List Pl.Bl) (f1:List Pl.Bl) (f2:List Pl.Bl) (dd:List Pl.Ch):Nat→Value→World→Prop
 |0,vv,_=>vv=.agg #[.slice xa s1.length xc]
 |1,vv,W=>∃ v,vv=.agg #[v]∧Raw W bL [cq f1] [v]
 |2,vv,_=>vv=.agg #[.slice ya s2.length yc]
 |3,vv,W=>∃ v,vv=.agg #[v]∧Raw W bL [cq f2] [v]
 |4,vv,W|5,vv,W=>∃ y1 y2 F,vv=.slice y1 dd.length y2∧Rep W false fq F [kK dd] [.slice y1 dd.length y2]∧∀ z∈F,N0≤z
 |_,_,_=>True
theorem FE (xc:Nat) (yc:Nat) (N0:Nat) (xa:Option Addr) (ya:Option Addr) (s1:List Pl.Bl) (s2:List Pl.Bl) (f1:List Pl.Bl) (f2:List Pl.Bl) (dd:List Pl.Ch):∀ jj vv W W',Bel W W'→VJi xc yc N0 xa ya s1 s2 f1 f2 dd jj vv W→VJi xc yc N0 xa ya s1 s2 f1 f2 dd jj vv W':=by
 intro jj vv W W' hb h;match jj with
 |0|2=>exact h
 |1|3=>
  obtain⟨v,h1,h2⟩:=h;exact⟨v,h1,h2.later hb⟩
 |4|5=>
  obtain⟨y1,y2,F,h1,h2,h3⟩:=h;exact⟨y1,y2,F,h1,h2.later hb,h3⟩
 |n+6=>exact trivial
theorem Rep.N1 {w:World} {tt:Bool} {ss:List Sh} {F:List Nat} {ds:List Dt} {cs:List Value} (h:Rep w tt ss F ds cs):∀ p∈F,∃ o,w.heap[p]? =some o∧o.isCells=true:=by
 induction h with
 |nil=>intro p hp;cases hp
 |i n h ih=>exact ih
 |b n h ih=>exact ih
 |s n h ih=>exact ih
 |emp t sh a ht h ih=>exact ih
 |row t sh p o n c u m vs es G ho hm ht hn hr he h ih1 ih=>
  intro q hq;rcases XD.1 hq with rfl|hq
  ·obtain⟨c,h1,_⟩:=ho;exact⟨_,h1,rfl⟩
  ·rcases XC.1 hq with e|e
   ·exact ih1 q e
   ·exact ih q e
theorem wpq {P:Program} {c:Code} {Q:Exit→Act→World→Prop} {a:Act} {w:World} (h:∀ Qx:Exit→Act→World→Prop,(∀ a w,Q .normal a w→Qx .normal a w)→c.wp P Qx a w):c.wp P Q a w:=h Q fun _ _ x=>x
theorem fI {β:Type} {B:Nat} {J:β→World→Prop} (h:AbidesFrom B J) {s:β} {W W':World} (hj:J s W) (hb:Bel W W'):J s W':=
 h s W W' none hj ⟨hb.os,hb.tape,hb.output,hb.size,fun i hi _=>hb.block i hi⟩ (fun _ e=>by cases e)
theorem zo (n:Nat) (w:World) (a b:ByteArray) (pa pb bb:Nat) (hpa:au w pa [.string a]) (Mw:au w pb [.string b]) (dG:aA w bb dv [.pointer none,.slice none 0 0]) (hg:rS w) (ha:a.size≤1048576) (hb:b.size≤1048576)
  (hIt:∀ (line:Nat) (X:World),line≤1000000000→Bel w X→Calls Tryz.prog 51 #[.int .i64 (line:Nat)] X fun e w'=>e=.returned (.string ⟨(Lib.decDigits line).toArray⟩)∧Bel X w'):
  SeqStopsK (α:=Pl.Tel) Fence.wide n Tryz.prog 29 #[.pointer (some ⟨pa,0,none⟩),.pointer (some ⟨pb,0,none⟩)] (fun t=> #[.string t.1]) (KY bb) (fun xs=>xs.map (·.1)=Pl.kQ a b) (fun pre=>pre.map (·.1)<+:Pl.kQ a b) (Pl.kQ a b).length w:=by
 intro y J Jx W hW hJ hJx hY h0;refine callsIn_wide.2 ?_;show Calls Tryz.prog 29 #[.func (.yield y) #[] #[],.pointer (some ⟨pa,0,none⟩),.pointer (some ⟨pb,0,none⟩)] W _;have Ms:=uh (hpa.later hW);have Es:=uh (Mw.later hW);have fm:=uh (dG.later hW);have HG:=uh (hg.later hW);have Rc:Hid (∀ (line:Nat) (X:World),line≤1000000000→Bel W X→Calls Tryz.prog 51 #[.int .i64 (line:Nat)] X fun e w'=>e=.returned (.string ⟨(Lib.decDigits line).toArray⟩)∧Bel X w'):=fun line X h1 h2=>hIt line X h1 (ae hW h2);have HJ:=uh (Xt hJ hJx);have JJ:=uh hY;have HJ0:=uh h0;obtain⟨s1,l1,c1,h1⟩:∃ s l c,Pl.aI a=(s,l,c):=⟨_,_,_,rfl⟩
 obtain⟨s2,l2,c2,h2⟩:∃ s l c,Pl.aI b=(s,l,c):=⟨_,_,_,rfl⟩
 obtain⟨tl,mN⟩:∃ z,z=Pl.kQ a b:=⟨_,rfl⟩
 have HR:Hid (tl=if c1≠0 then [Pl.CA++Pl.ki l1 c1] else if c2≠0 then [Pl.CD++Pl.ki l2 c2] else if (Pl.bY (Pl.bN s1) (Pl.bN s2)).length=0 then [Pl.BB] else (Pl.bY (Pl.bN s1) (Pl.bN s2)).map Pl.gu):=by show tl=_;rw[mN,Pl.kQ,h1,h2]
 have ld:Hid (∀ X,Bel W X→Calls Tryz.prog 30 #[.string a] X (zu (s1,l1,c1) X)):=fun X hX=>by rw[← h1];exact pn a X (HG.out.later hX) ha
 have kY:Hid (∀ X,Bel W X→Calls Tryz.prog 30 #[.string b] X (zu (s2,l2,c2) X)):=fun X hX=>by rw[← h2];exact pn b X (HG.out.later hX) hb
 have AR:Hid (c1≤11∧l1≤1000000000):=by have:=Pl.np a;rw[h1]at this;exact this
 have sn:Hid (c2≤11∧l2≤1000000000):=by have:=Pl.np b;rw[h2]at this;exact this
 have AU:Hid (∀ z∈s1,z.lines.length≤400∧Pl.OkB z):=by have:=Pl.iZ a;rw[h1]at this;exact this
 have fy:Hid (∀ z∈s2,z.lines.length≤400∧Pl.OkB z):=by have:=Pl.iZ b;rw[h2]at this;exact this
 rw[← mN]at JJ ⊢;have eH:=Ms.out.lt;have jo:=fm.out.own.lt;have Ec:=uh jo;clear hpa Mw dG hg hIt hJ hJx hY h0 h1 h2 mN ha hb hW eH jo;have x0:=Ms.out.get 0 _ rfl;have xl:=Ms.out.lt;go_enter Tryz.func29,Tryz.ntmps29
 go_wp2_with fail
 refine(ld.out W zR).mono ?_;rintro e w1 ⟨c,F,rfl,r,_,_,cr⟩;obtain⟨FX,v0,_,rfl,r0⟩:=ix r;obtain⟨xa,xc,hx⟩:=r0.raw.aT;subst hx;have HX:=uh r0;have Eu:=uh r0.lt;have HB:=uh cr;clear r r0 cr ld x0 xl;obtain⟨b5,oZ⟩:∃ z,z=w1.heap.size:=⟨_,rfl⟩
 obtain⟨w2,fw⟩:∃ z,z=(w1.alloc (.cells #[.slice xa s1.length xc] 26)).alloc (.cells #[.int .i64 (l1:Nat),.int .i64 (c1:Nat)] 28):=⟨_,rfl⟩
 have hq:Bel w1 w2:=by rw[fw];exact af (af zR _) _
 have uT:Hid (au w2 b5 [.slice xa s1.length xc]):=by show au _ _ _;rw[fw,oZ];exact(au.new w1 #[.slice xa s1.length xc] _ _ rfl).eO _
 have AK:Hid (aA w2 (b5+1) 28 [.int .i64 (l1:Nat),.int .i64 (c1:Nat)]):=by show aA _ _ _ _;rw[fw];exact aA.new _ [.int .i64 (l1:Nat),.int .i64 (c1:Nat)] _ _ (by simp[oZ])
 have fZ:Hid (W.heap.size≤b5):=by show _≤_;rw[oZ];exact HB.out.size
 rw[← oZ]at Eu;have HZ5:=uh AK.out.own.lt;go_upto_region 1 with fail
 rw[← fw,← oZ];clear fw oZ;replace HB:=uh (ae HB.out hq)
 replace HX:=uh (HX.out.later hq)
 clear hq;have y1:=AK.out.get 1 _ rfl;have yl:=AK.out.own.lt;by_cases hc0:c1=0
 rotate_left
 ·have OQ:¬ ((c1:Nat):Int)=0:=by omega
  obtain⟨tf,Ls⟩:∃ z,z=Pl.ki l1 c1:=⟨_,rfl⟩
  have HE:Hid (tl=[(⟨#[111,108,100]⟩:ByteArray)++tf]):=by show tl=_;rw[HR.out,if_pos hc0,Ls];rfl
  have UF:Hid (Calls Tryz.prog 31 #[.agg #[.int .i64 (l1:Nat),.int .i64 (c1:Nat)]] w2 fun e w'=>e=.returned (.string tf)∧Bel w2 w'):=by rw[Ls];exact rP l1 c1 (by omega) AR.out.1 AR.out.2 w2 (fun X hX=>Rc.out l1 X AR.out.2 (ae HB.out hX))
  have htz:tf.size≤200:=by rw[Ls];exact Pl.BH l1 c1 AR.out.2
  have Cc:=uh (fI HJ.out.1 HJ0.out HB.out);have y0:=AK.out.get 0 _ rfl;clear hc0 Ls;go_upto_region 2 with fail
  refine wpq ?_;intro Qx Ir;have Jp:=uh Ir;clear Ir;refine(wpIn_wide (n:=n)).1 ?_;gi_wp2
  refine⟨trivial,fun h=>(by cases h),(callsIn_wide.2 UF.out).mono ?_⟩;rintro e W1 ⟨rfl,DS⟩;have SP:=uh (fI HJ.out.1 Cc.out DS);obtain⟨fn,tmps,assign,body,hy,hR⟩:=JJ.out [] ⟨(⟨#[111,108,100]⟩:ByteArray)++tf,by rw[XU];have:(⟨#[111,108,100]⟩:ByteArray).size=3:=rfl;omega⟩ W1 SP.out (by rw[HE.out];simp);try dsimp only at hy
  have nV:=uh hR;clear hR DS;gi_wp2
  refine⟨fun h=>(by cases h),nV.out.mono ?_⟩;rintro e W3 (⟨rfl,Iu,JN⟩|⟨rfl,sr⟩)
  ·have AE:=uh Iu;clear Iu JN hy y0 y1 yl;gi_wp2
   refine Jp.out _ _ ?_;go_wp2;refine bodyPost_ret (results_none rfl _ _ _) rfl ?_;refine⟨⟨_,rfl⟩,.inl ⟨_, ?_,AE.out⟩⟩;exact HE.out.symm
  ·have AE:=uh sr;clear sr hy y0 y1 yl;gi_wp2
   refine Jp.out _ _ ?_;go_wp2;refine bodyPost_ret (results_none rfl _ _ _) rfl ?_;exact⟨⟨_,rfl⟩,.inr ⟨_,by rw[HE.out];exact List.prefix_refl _,AE.out⟩⟩
 subst hc0;have x0:=(Es.out.later HB.out).get 0 _ rfl;have xl:=(Es.out.later HB.out).lt;go_wp2_with fail
 refine(kY.out w2 HB.out).mono ?_;rintro e w3 ⟨c,F,rfl,r,_,fr,cr⟩;obtain⟨FY,v0,hFY,rfl,r0⟩:=ix r;obtain⟨ya,yc,hx⟩:=r0.raw.aT;subst hx;have HY:=uh r0;have HFY:Hid (∀ p∈FY,w2.heap.size≤p):=fun p hp=>fr p (by rw[hFY];simp[hp]);clear fr hFY;replace HX:=uh (HX.out.later cr)
 replace HB:=uh (ae HB.out cr)
 replace uT:=uh (uT.out.later cr)
 replace AK:=uh (AK.out.later cr)
 clear r r0 cr kY y1 yl x0 xl;obtain⟨b7,oW⟩:∃ z,z=w3.heap.size:=⟨_,rfl⟩
 obtain⟨wm,B4⟩:∃ z,z=w3.alloc (.cells #[.slice ya s2.length yc] 26):=⟨_,rfl⟩
 have hq:Bel w3 wm:=by rw[B4];exact af zR _
 have Lv:Hid (aA wm b7 26 [.slice ya s2.length yc]):=by show aA _ _ _ _;rw[B4];exact aA.new w3 [.slice ya s2.length yc] _ _ oW
 have Oa:=uh (AK.out.later hq);have bJ:wm.there (b5+1) 0 (#[.int .i64 (l2:Nat),.int .i64 (c2:Nat)]:Array Value).size:=aX Oa.out.own _ _ (by simp);obtain⟨w4,p4⟩:∃ z,z=wm.setCells (b5+1) 0 [.int .i64 (l2:Nat),.int .i64 (c2:Nat)]:=⟨_,rfl⟩
 have jK:Hid (Marks (fun z=>z=b5+1) wm w4):=by show Marks _ _ _;rw[p4];exact bf (S:=fun z=>z=b5+1) rfl _ _ _
 have IL:Hid (au w4 (b5+1) [.int .i64 (l2:Nat),.int .i64 (c2:Nat)]):=⟨zL Oa.out.own.lt jK.out.size,by rw[p4];exact World.rangeAt_setCells_same _ _ _ _ bJ⟩
 have Ex:Hid (Raw w4 bL [cq s1] [.slice xa s1.length xc]∧Raw w4 bL [cq s2] [.slice ya s2.length yc]):=⟨((HX.out.later hq).cO jK.out (fun p hp e=>by have:=Eu.out p hp;omega)).raw,((HY.out.later hq).cO jK.out (fun p hp e=>by have:=HFY.out p hp;have:=HZ5.out;omega)).raw⟩
 have K3:Hid (Bel W w4):=jK.out.below (fun z e=>by rw[e];have:=fZ.out;omega) (ae HB.out hq);have UR:Hid (Raw w4 bL [cq s1] [.slice xa s1.length xc]∧Raw w4 bL [cq s2] [.slice ya s2.length yc]):=Ex.out;rw[B4]at bJ;go_upto_region 4 with(refine wpList_store_mid rfl 28 _ _ rfl (b5+1) 0 #[.int .i64 (l2:Nat),.int .i64 (c2:Nat)] rfl rfl bJ (by kernel_rfl) (by simp[Value.oneCell']) ?_)
 first|rw[← B4,← p4,← oW]|(simp only[Xi];rw[← B4,← p4,← oW])
 have Rw:Hid (au w4 b5 [.slice xa s1.length xc]):=by
  refine⟨zL (uT.out.later hq).lt jK.out.size,fF (uT.out.later hq).at_ fun jj _=>Yg (a:=⟨b5,0+jj,none⟩) (jK.out.block b5 (uT.out.later hq).lt (by omega))⟩
 have OT:Hid (au w4 b7 [.slice ya s2.length yc]):=by
  refine⟨zL Lv.out.own.lt jK.out.size,fF Lv.out.at_ fun jj _=>Yg (a:=⟨b7,0+jj,none⟩) (jK.out.block b7 Lv.out.own.lt (by have:=AK.out.own.lt;omega))⟩
 clear p4 B4 bJ oW Lv Oa Ex;have HB:=K3;have uT:=Rw;clear K3 Rw jK hq AK;have y1:=IL.out.get 1 _ rfl;have yl:=IL.out.lt;have Cc:=uh (fI HJ.out.1 HJ0.out HB.out);by_cases hc0:c2=0
 rotate_left
 ·have OQ:¬ ((c2:Nat):Int)=0:=by omega
  obtain⟨tf,Ls⟩:∃ z,z=Pl.ki l2 c2:=⟨_,rfl⟩
  have HE:Hid (tl=[(⟨#[110,101,119]⟩:ByteArray)++tf]):=by show tl=_;rw[HR.out,if_neg (by simp),if_pos hc0,Ls];rfl
  have UF:Hid (Calls Tryz.prog 31 #[.agg #[.int .i64 (l2:Nat),.int .i64 (c2:Nat)]] w4 fun e w'=>e=.returned (.string tf)∧Bel w4 w'):=by rw[Ls];exact rP l2 c2 (by omega) sn.out.1 sn.out.2 w4 (fun X hX=>Rc.out l2 X sn.out.2 (ae HB.out hX))
  have htz:tf.size≤200:=by rw[Ls];exact Pl.BH l2 c2 sn.out.2
  have y0:=IL.out.get 0 _ rfl;clear hc0 Ls;go_upto_region 5 with fail
  refine wpq ?_;intro Qx Ir;have Jp:=uh Ir;clear Ir;refine(wpIn_wide (n:=n)).1 ?_;gi_wp2
  refine⟨trivial,fun h=>(by cases h),(callsIn_wide.2 UF.out).mono ?_⟩;rintro e W1 ⟨rfl,DS⟩;have SP:=uh (fI HJ.out.1 Cc.out DS);obtain⟨fn,tmps,assign,body,hy,hR⟩:=JJ.out [] ⟨(⟨#[110,101,119]⟩:ByteArray)++tf,by rw[XU];have:(⟨#[110,101,119]⟩:ByteArray).size=3:=rfl;omega⟩ W1 SP.out (by rw[HE.out];simp);try dsimp only at hy
  have nV:=uh hR;clear hR DS;gi_wp2
  refine⟨fun h=>(by cases h),nV.out.mono ?_⟩;rintro e W3 (⟨rfl,Iu,JN⟩|⟨rfl,sr⟩)
  ·have AE:=uh Iu;clear Iu JN hy y0 y1 yl;gi_wp2
   refine Jp.out _ _ ?_;go_wp2;refine bodyPost_ret (results_none rfl _ _ _) rfl ?_;refine⟨⟨_,rfl⟩,.inl ⟨_, ?_,AE.out⟩⟩;exact HE.out.symm
  ·have AE:=uh sr;clear sr hy y0 y1 yl;gi_wp2
   refine Jp.out _ _ ?_;go_wp2;refine bodyPost_ret (results_none rfl _ _ _) rfl ?_;exact⟨⟨_,rfl⟩,.inr ⟨_,by rw[HE.out];exact List.prefix_refl _,AE.out⟩⟩
 subst hc0;clear IL AR sn;obtain⟨f1,DJ⟩:∃ z,z=Pl.bN s1:=⟨_,rfl⟩
 obtain⟨f2,Iv⟩:∃ z,z=Pl.bN s2:=⟨_,rfl⟩
 obtain⟨dd,lZ⟩:∃ z,z=Pl.bY f1 f2:=⟨_,rfl⟩
 have HE:Hid (tl=if dd.length=0 then [Pl.BB] else dd.map Pl.gu):=by show tl=_;rw[HR.out,if_neg (by simp),if_neg (by simp),← DJ,← Iv,← lZ]
 have Jm:Hid (∀ X,Bel w4 X→Calls Tryz.prog 33 #[.agg #[.slice xa s1.length xc]] X (Ans ee [cq f1] X)):=fun X hX=>by rw[DJ,← fill_eq];exact xg s1 _ X (UR.out.1.later hX) (Pl.tD fun z hz=>(AU.out z hz).2) (fun z hz=>⟨by have:=(AU.out z hz).1;omega,fun x hx=>by have:=((AU.out z hz).2.ws x hx).1;omega⟩)
 have I7:Hid (∀ X,Bel w4 X→Calls Tryz.prog 33 #[.agg #[.slice ya s2.length yc]] X (Ans ee [cq f2] X)):=fun X hX=>by rw[Iv,← fill_eq];exact xg s2 _ X (UR.out.2.later hX) (Pl.tD fun z hz=>(fy.out z hz).2) (fun z hz=>⟨by have:=(fy.out z hz).1;omega,fun x hx=>by have:=((fy.out z hz).2.ws x hx).1;omega⟩)
 have ok1:∀ z∈f1,Pl.OkB z:=by rw[DJ];exact Pl.j6 AU.out
 have ok2:∀ z∈f2,Pl.OkB z:=by rw[Iv];exact Pl.j6 fy.out
 have gE:Hid (∀ X v1 v2,Bel w4 X→Raw X bL [cq f1] [v1]→Raw X bL [cq f2] [v2]→Calls Tryz.prog 32 #[.agg #[v1],.agg #[v2]] X (eT fq (kK dd) X)):=fun X v1 v2 _ q1 q2=>by rw[lZ];exact Ae f1 f2 v1 v2 X q1 q2 (Pl.tD ok1) (Pl.tD ok2) (Pl.vq ok1) (Pl.vq ok2)
 have wA:Hid (∀ c∈dd,Pl.SmC c):=by show ∀ c∈dd,_;rw[lZ];exact Pl.BA ok1 ok2
 have kC:Hid (dd.length≤1000):=by show _≤_;rw[lZ];exact Pl.qZ f1 f2
 clear ok1 ok2 DJ Iv lZ HR AU fy;go_upto_region 6 with fail
 clear y1 yl;refine RY.bs w4 zR (VJi xc yc w4.heap.size xa ya s1 s2 f1 f2 dd) (FE _ _ _ _ _ _ _ _ _ _) (by kernel_rfl) (by kernel_rfl) (by kernel_rfl) (by kernel_rfl) ?_ ?_
 ·intro ii o' ho a X hX hk hd;have zb5:=uT.out.later hX;have zb5l:=zb5.lt;have zb7:=OT.out.later hX;have zb7l:=zb7.lt;match ii,ho with
  |0,rfl=>
   have v4:a.eval (.tmp 4)=.pointer (some ⟨b5,0,none⟩):=(hk 4 (by kernel_rfl)).trans rfl;exact No ⟨_,X,ak 26 _ rfl b5 0 v4 [.slice xa s1.length xc] _ zb5.at_ Tryz.underlying26 rfl (by kernel_rfl),zR,rfl⟩
  |1,rfl=>
   have e36:=RY.E hd 0 36;refine Xk ⟨33,#[.agg #[.slice xa s1.length xc]],by simp[go_sem,e36],(Jm.out X hX).mono ?_⟩;rintro e W' ⟨c,F,rfl,r,nd,fr,hb⟩;obtain⟨v0,hc,r0⟩:=jD r.raw;subst hc;exact⟨_,rfl,hb,v0,rfl,r0⟩
  |2,rfl=>
   have v6:a.eval (.tmp 6)=.pointer (some ⟨b7,0,none⟩):=(hk 6 (by kernel_rfl)).trans rfl;exact No ⟨_,X,ak 26 _ rfl b7 0 v6 [.slice ya s2.length yc] _ zb7.at_ Tryz.underlying26 rfl (by kernel_rfl),zR,rfl⟩
  |3,rfl=>
   have e38:=RY.E hd 2 38;refine Xk ⟨33,#[.agg #[.slice ya s2.length yc]],by simp[go_sem,e38],(I7.out X hX).mono ?_⟩;rintro e W' ⟨c,F,rfl,r,nd,fr,hb⟩;obtain⟨v0,hc,r0⟩:=jD r.raw;subst hc;exact⟨_,rfl,hb,v0,rfl,r0⟩
  |4,rfl=>
   obtain⟨v37,q37,UK⟩:=hd 1 _ 37 rfl rfl ⟨⟨1,.data⟩,by simp,rfl,rfl⟩;have e37:a.tmps[37]?.getD undef=.agg #[v37]:=(RY.ai a 37).trans q37;obtain⟨v39,q39,Pw⟩:=hd 3 _ 39 rfl rfl ⟨⟨3,.data⟩,by simp,rfl,rfl⟩;have e39:a.tmps[39]?.getD undef=.agg #[v39]:=(RY.ai a 39).trans q39;refine Xk ⟨32,#[.agg #[v37],.agg #[v39]],by simp[go_sem,e37,e39],(gE.out X v37 v39 hX UK Pw).mono ?_⟩;rintro e W' ⟨v,F,rfl,r,nd,fr,hb⟩;obtain⟨x1,x2,hx⟩:=r.raw.aT;subst hx;exact⟨_,rfl,hb,x1,x2,F,rfl,r,fun z hz=>Xg hX.size (fr z hz)⟩
  |5,rfl=>
   obtain⟨y1,y2,F40,q40,Uj,Ur⟩:=hd 4 _ 40 rfl rfl ⟨⟨4,.data⟩,by simp,rfl,rfl⟩;have e40:a.tmps[40]?.getD undef=.slice y1 dd.length y2:=(RY.ai a 40).trans q40;exact No ⟨_,X,by simp[execOp,go_sem,e40],zR,y1,y2,F40,rfl,Uj,Ur⟩
  |n+6,ho=>simp at ho
 intro X vs hX bn;obtain⟨da,dc,FD,q7,VU,hFD⟩:=bn 5 _ 7 rfl rfl;simp only[RY.aC,Act.put,so,As,An];generalize vs 36=mU,vs 37=nS,vs 38=mT,vs 39=nW,vs 40=s40;rw[q7];clear bn;obtain⟨Wc,hWc⟩:∃ z,z=X:=⟨_,rfl⟩
 rw[← hWc]at hX VU ⊢;have HD:=uh (Xt VU hFD);have vZ:=uh (ae HB.out hX);have HJC:=uh (fI HJ.out.1 Cc.out hX);have KV:Hid (BR bb Wc.heap.size Wc):=⟨zE,_,_,fm.out.later vZ.out,fun q e=>by cases e⟩
 have UE:Hid (bb<w4.heap.size):=zL Ec.out HB.out.size;clear hWc hX VU hFD q7 uT OT Jm I7 gE UR Cc;obtain⟨m,hm⟩:∃ m,m=dd.length:=⟨_,rfl⟩
 have HM:=uh hm;rw[← hm]at HE kC ⊢;have lO:m≤1000:=kC.out;clear hm;by_cases h0:m=0
 ·subst h0;have DT:Hid (tl=[Pl.BB]):=HE.out;clear HE;go_upto_region 8 with fail
  refine wpq ?_;intro Qx Ir;have Jp:=uh Ir;clear Ir;refine(wpIn_wide (n:=n)).1 ?_;obtain⟨fn,tmps,assign,body,hy,hR⟩:=JJ.out [] ⟨(⟨#[116,104,101,32,115,97,109,101]⟩:ByteArray),by decide⟩ Wc HJC.out (by rw[DT.out];simp);try dsimp only at hy
  have nV:=uh hR;clear hR;gi_wp2
  refine⟨fun h=>(by cases h),nV.out.mono ?_⟩;rintro e W3 (⟨rfl,Iu,JN⟩|⟨rfl,sr⟩)
  ·have AE:=uh Iu;clear Iu JN hy;gi_wp2
   refine Jp.out _ _ ?_;go_wp2;refine bodyPost_ret (results_none rfl _ _ _) rfl ?_;refine⟨⟨_,rfl⟩,.inl ⟨_, ?_,AE.out⟩⟩;exact DT.out.symm
  ·have AE:=uh sr;clear sr hy;gi_wp2
   refine Jp.out _ _ ?_;go_wp2;refine bodyPost_ret (results_none rfl _ _ _) rfl ?_;exact⟨⟨_,rfl⟩,.inr ⟨_,by rw[DT.out];exact List.prefix_refl _,AE.out⟩⟩
 have DT:Hid (tl=dd.map Pl.gu):=by show _=_;rw[HE.out,if_neg h0]
 have Lw:((m:Int)==0)=false:=by simp;omega
 clear HE h0;go_wp2;go_loopw [48] (fun vi wr=>∃ k:Nat,k≤m∧vi=.int .i64 k∧(∃ pre:List Pl.Tel,pre.map (·.1)=(dd.take k).map Pl.gu∧J pre wr)∧KY bb Wc wr) (fun vi _=>m - (intOf vi).toNat)
 case atStart=>exact⟨0,zN,rfl,⟨[],rfl,HJC.out⟩,KY.bB zR⟩
 case round=>
  obtain⟨k,hk,rfl,⟨pre,Ul,hj⟩,PY⟩:=hrel;have Vn:=uh hj;have TL:=uh Ul;have eH:pre.length=k:=by have:=congrArg List.length Ul;rw[XT,XT,Xo]at this;have:=HM.out;omega
  have Sf:=uh eH;clear Ul eH;have U8:=uh PY;clear hj PY;by_cases bq:k<m
  rotate_left
  ·have jq:dd.take k=dd:=Xp (by have:=HM.out;omega);rw[jq]at TL;go_wp2;go_end0
   exact⟨⟨_,rfl⟩,.inl ⟨_,TL.out.trans DT.out.symm,Vn.out⟩⟩
  have eB:k<dd.length:=by have:=HM.out;omega
  have hrw:Rep wr false fq FD [kK dd] [.slice da dd.length dc]:=HD.out.1.frm (U8.out.frm KV.out) (fun p hp hs=>by
   rcases hs with e|e|e
   ·have:=HD.out.2 p hp;have:=UE.out;omega
   ·have:=HD.out.1.lt p hp;omega
   ·obtain⟨ob,q1,q2⟩:=HD.out.1.N1 p hp;rw[e ob q1]at q2;cases q2)
  rcases yy hrw.raw with⟨e0,_⟩|⟨p,o,c,hv,hp,dR,aE⟩
  ·omega
  rw[← HM.out]at hv dR;injection hv with g1 _ g3
  subst g1;subst g3;unfold maxLen at dR;obtain⟨la,lc,dm,yI⟩:=aE k eB;have kc:=uh (Pl.cp Pl.ie dd k eB);have uK:dd.getD k Pl.ie∈dd:=by
   have e:dd.getD k Pl.ie=dd[k]:=by simp[eB]
   rw[e];exact Xq eB
  have nQ:=uh (wA.out _ uK);obtain⟨ch,DO⟩:∃ z,z=dd.getD k Pl.ie:=⟨_,rfl⟩
  rw[← DO]at dm yI kc nQ;obtain⟨w8,En⟩:∃ z,z=wr.alloc (.cells #[.int .i64 ch.what,.string ch.kind,.string ch.name,.string ch.key,.slice la ch.lines.length lc] 37):=⟨_,rfl⟩
  have uN:Bel wr w8:=by rw[En];exact af zR _
  obtain⟨z0,dp⟩:∃ z,z=wr.heap.size:=⟨_,rfl⟩
  have AN:Hid (au w8 z0 [.int .i64 ch.what,.string ch.kind,.string ch.name,.string ch.key,.slice la ch.lines.length lc]):=by show au _ _ _;rw[En];exact au.new _ #[.int .i64 ch.what,.string ch.kind,.string ch.name,.string ch.key,.slice la ch.lines.length lc] _ _ dp
  have HJ8:=uh (fI HJ.out.1 Vn.out uN);have Va:=uh (U8.out.trans (KY.bB (b:=bb) uN));obtain⟨tc,PO⟩:∃ z,z=Pl.gu ch:=⟨_,rfl⟩
  have Tc:Hid (Calls Tryz.prog 34 #[.agg #[.int .i64 ch.what,.string ch.kind,.string ch.name,.string ch.key,.slice la ch.lines.length lc]] w8 fun e w'=>e=.returned (.string tc)∧Bel w8 w'):=by rw[PO];exact xA ch la lc w8 nQ.out (yI.later uN)
  have Ig:=uh PO;clear PO;have cZ:(0:Int)≤(k:Int):=by omega
  have dy:(k:Int)<(m:Int):=by omega
  clear DO uK aE hp yI uN hrw Vn U8;go_upto_region 12 with(refine wpList_load_mid rfl 37 _ rfl p (o+k*5) rfl [.int .i64 ch.what,.string ch.kind,.string ch.name,.string ch.key,.slice la ch.lines.length lc] _ dm Tryz.underlying37 rfl (by kernel_rfl) ?_)
  rw[← En,← dp];clear En dp dm;have z0c:=AN.out.get 0 _ rfl;have z1c:=AN.out.get 1 _ rfl;have z2c:=AN.out.get 2 _ rfl;have z3c:=AN.out.get 3 _ rfl;have z4c:=AN.out.get 4 _ rfl;have zl:=AN.out.lt;refine wpq ?_;intro Qx Ir;have Jp:=uh Ir;clear Ir;refine(wpIn_wide (n:=n)).1 ?_;gi_wp2
  refine⟨trivial,fun h=>(by cases h),(callsIn_wide.2 Tc.out).mono ?_⟩;rintro e W1 ⟨rfl,DS⟩;have SP:=uh (fI HJ.out.1 HJ8.out DS);have VD:=uh (Va.out.trans (KY.bB (b:=bb) DS));obtain⟨fn,tmps,assign,body,hy,hR⟩:=JJ.out pre ⟨tc,by rw[Ig.out];exact Xg (Pl.oO nQ.out) (by decide)⟩ W1 SP.out (by rw[DT.out,XT,Sf.out];omega);try dsimp only at hy
  have nV:=uh hR;have HTT:Hid (dd.take (k+1)=dd.take k++[ch]):=kc.out;clear hR DS z0c z1c z2c z3c z4c zl;gi_wp2
  refine⟨fun h=>(by cases h),nV.out.mono ?_⟩;rintro e W3 (⟨rfl,Iu,JN⟩|⟨rfl,sr⟩)
  ·have AE:=uh Iu;have OJ:Hid ((pre++[(⟨tc,by rw[Ig.out];exact Xg (Pl.oO nQ.out) (by decide)⟩:Pl.Tel)]).map (·.1)=(dd.take (k+1)).map Pl.gu):=by show _=_;rw[HTT.out,Yr,Yr,TL.out,List.map_singleton,List.map_singleton];exact congrArg (fun z=>List.map Pl.gu (dd.take k)++[z]) Ig.out
   have VC:=uh (VD.out.trans JN);clear Iu JN hy;gi_wp2
   refine Jp.out _ _ ?_;go_wp2;go_roundw
   case rel=>exact⟨k+1,by omega,by go_num,⟨_,OJ.out,AE.out⟩,VC.out⟩
   case measure=>simp[intOf];omega
  ·have AE:=uh sr;have OJ:Hid ((pre++[(⟨tc,by rw[Ig.out];exact Xg (Pl.oO nQ.out) (by decide)⟩:Pl.Tel)]).map (·.1)=(dd.take (k+1)).map Pl.gu):=by show _=_;rw[HTT.out,Yr,Yr,TL.out,List.map_singleton,List.map_singleton];exact congrArg (fun z=>List.map Pl.gu (dd.take k)++[z]) Ig.out
   clear sr hy;gi_wp2
   refine Jp.out _ _ ?_;go_wp2;refine bodyPost_ret (results_none rfl _ _ _) rfl ?_;exact⟨⟨_,rfl⟩,.inr ⟨_,by rw[OJ.out,DT.out];exact(List.take_prefix (k+1) dd).map _,AE.out⟩⟩
theorem Ag (a b:ByteArray) (w:World):Calls Tryz.prog 11 #[.string a,.string b] w fun e w'=>e=.returned (.func (.func 29) #[] #[.pointer (some ⟨w.heap.size,0,none⟩),.pointer (some ⟨w.heap.size+1,0,none⟩)])∧w'=(w.alloc (.cells #[.string a] 9)).alloc (.cells #[.string b] 9):=by
 go_enter Tryz.func11,Tryz.ntmps11
 go_wp2;go_ret;exact⟨rfl,rfl⟩
theorem BW.Nf {B b:Nat} {l:List UInt8} {W W':World} {row:Option Nat} (h:BW B b l W) (hg:W.grownBy W' row) (hr:∀ r,row=some r→∃ o:Obj,W.heap[r]? =some o∧o.isCells=false):BW B b l W':=by
 obtain⟨hB,p,v,h1,h2,h3,h4⟩:=h;refine⟨hB,p,v,h1,h2.rN hg fun e=> ?_,bT (S:=fun q=>row=some q) h3 (Frm.xS hg fun q e=>e) fun g Iz e=> ?_,h4⟩
 ·obtain⟨o,q1,q2⟩:=hr b e;obtain⟨o',q3,q4⟩:=h2.isC;rw[q1]at q3;injection q3 with q3
  rw[q3,q4]at q2;cases q2
 ·obtain⟨o,q1,q2⟩:=hr g e;obtain⟨_,cur,q3⟩:=cC h3 Iz;rw[q1]at q3;injection q3 with q3
  rw[q3]at q2;cases q2
attribute [local go_sem] Oper.semAt_some
theorem vz (a b:ByteArray) (w:World) (ha:a.size≤1048576) (hb:b.size≤1048576) (hg:rS w)
  (hIt:∀ (line:Nat) (X:World),line≤1000000000→Bel w X→Calls Tryz.prog 51 #[.int .i64 (line:Nat)] X fun e w'=>e=.returned (.string ⟨(Lib.decDigits line).toArray⟩)∧Bel X w'):
  Calls Tryz.prog 5 #[.string a,.string b] w fun e w'=>e=.returned (.string (Pl.fN a b))∧Bel w w':=by
 obtain⟨R,hR⟩:∃ R,R=Pl.fN a b:=⟨_,rfl⟩
 have HR:Hid (R=⟨(Pl.nlT (Pl.kQ a b)).toArray⟩):=hR.trans (Pl.Dh a b).symm;rw[← hR];clear hR;obtain⟨b0,aU⟩:∃ z,z=w.heap.size:=⟨_,rfl⟩
 have HZ:=uh aU;obtain⟨wa,aP⟩:∃ z,z=w.alloc (.cells #[.pointer none,.slice none 0 0] dv):=⟨_,rfl⟩
 have wN:Bel w wa:=by rw[aP];exact af zR _
 have lF:aA wa b0 dv [.pointer none,.slice none 0 0]:=by rw[aP,aU];exact aA.new w [.pointer none,.slice none 0 0] dv _ rfl
 have B3:wa.heap.size=b0+1:=by rw[aP,aU];simp
 obtain⟨wb,fa⟩:∃ z,z=(wa.alloc (.cells #[.string a] 9)).alloc (.cells #[.string b] 9):=⟨_,rfl⟩
 have dG:Bel wa wb:=by rw[fa];exact af (af zR _) _
 have Ms:Hid (au wb (b0+1) [.string a]):=by show au _ _ _;rw[fa];exact(au.new wa #[.string a] _ _ B3.symm).eO _
 have Es:Hid (au wb (b0+2) [.string b]):=by show au _ _ _;rw[fa];exact au.new _ #[.string b] _ _ (by rw[World.size_alloc,B3])
 have qs:=uh (lF.later dG);have HB:=uh (ae wN dG);have HT:Hid (Calls Tryz.prog 11 #[.string a,.string b] wa fun e w'=>e=.returned (.func (.func 29) #[] #[.pointer (some ⟨b0+1,0,none⟩),.pointer (some ⟨b0+2,0,none⟩)])∧w'=wb):=by
  have:=Ag a b wa;rw[B3]at this;rw[fa];exact this
 have Ji:=zo 7 wb a b (b0+1) (b0+2) b0 Ms.out Es.out qs.out (hg.later HB.out) ha hb (fun line X h1 h2=>hIt line X h1 (ae HB.out h2));have Oi:=uh (Pl.GB a b);obtain⟨tl,mN⟩:∃ z,z=Pl.kQ a b:=⟨_,rfl⟩
 rw[← mN]at HR Ji Oi;have VB:=uh Ji;clear mN wN dG lF B3 fa ha hb hg hIt Ji;refine(callsIn_wide (n:=8)).1 (callsIn_of_wp_marks Tryz.func5 rfl trivial ?_);simp only[Tryz.ntmps5,Yx,Xm,XX,Nat.reduceAdd,Nat.reduceSub,Array.replicate_succ,Array.replicate_zero,List.push_toArray,List.append_toArray,Yn,Yj];refine wpIn_wide.2 ?_;go_upto_region 2 with fail
 rw[← aP,← aU];clear aP aU;go_wp2_with fail
 refine HT.out.mono ?_;rintro e w3 ⟨rfl,rfl⟩;clear HT;go_wp2_with fail
 refine(wpIn_wide (n:=8)).1 ?_;obtain⟨fr,k9⟩:∃ fr:Pl.Tel→Act,fr=fun x=>{tmps:=#[.string a,.string b,undef,undef,.string {data:=#[]},.pointer (some ⟨b0,0,none⟩),.string x.1,.string a,.string b,.func (.func 29) #[] #[.pointer (some ⟨b0+1,0,none⟩),.pointer (some ⟨b0+2,0,none⟩)],.string x.1,undef,undef,undef,undef,undef,undef],defers:=[]}:=⟨_,rfl⟩
 refine wpIn_rangeFunc_ownH rfl (by decide) (gf:=29) (lb:=#[.pointer (some ⟨b0+1,0,none⟩),.pointer (some ⟨b0+2,0,none⟩)]) rfl trivial (enters_of Tryz.func29 (by kernel_rfl) rfl) VB.out (fun h k=>KY.trans h k) (fun W l o o' _ ho hc _=>KY.put W l o o' ho hc) zR (fun _=>rfl)
  (fun (pre:List Pl.Tel) W=>BW w.heap.size b0 (Pl.nlT (pre.map (fun t:Pl.Tel=>t.1))) W∧Bel w W)
  (fun _ _ _=>False)
  (OwnFrom.and (fun (pre:List Pl.Tel) W W' row h hg hr=>h.Nf hg (fun r e=>(hr r e).2)) (ownFrom_below zE HB.out.size))
  (fun c s W W' row h _ _=>h)
  ⟨⟨by rw[← HZ.out];exact zE,_,_,No rfl,qs.out,By.nil _ _,fun _=>rfl⟩,HB.out⟩
  (fun x a' _=>a'=fr x)
  (fun _ _ _ _ _ _ hs _ _=>hs)
  ?assign ?body ?done ?stop
 case assign=>
  rintro l pre x W K1 hi hK;try dsimp only
  rw[k9]at hK;dsimp only at hK
  have HK:=uh hK;have HI:=uh hi;clear hK k9 hi;gi_wp2
  exact HK.out _ _ (KeepsFrom.refl _ _) (KY.bB zR) HI.out rfl
 case body=>
  rintro l pre x a' W hl ⟨r,hr⟩ ⟨hp,Ld⟩ ha hlen;rw[k9]at ha;dsimp only at ha
  subst ha;obtain⟨t,ht⟩:∃ t:ByteArray,t=x.1:=⟨_,rfl⟩
  have Wu:t.size≤60000000:=by rw[ht];exact x.2
  have kg:=uh ht;rw[← ht];have yS:(Pl.nlT (pre.map (·.1))).length≤1000*60000001:=Xg (Pl.Br pre) (XJ _ (by have:=Oi.out;omega));have HWK:=uh (Nl w.heap.size b0 (Pl.nlT (pre.map (·.1))) (t++(⟨#[10]⟩:ByteArray)) W hp Ld.size (by rw[XU];have:(⟨#[10]⟩:ByteArray).size=1:=rfl;omega) (by rw[XU];have:(⟨#[10]⟩:ByteArray).size=1:=rfl;omega));have UM:=uh Ld;have V3:t.size≤9223372036854775807:=by omega
  clear k9 hp Ld hl hr hlen ht yS;gi_wp2
  refine⟨trivial,(CallsIn.inRound l (callsIn_wide.2 HWK.out)).mono ?_⟩;rintro e W1 ⟨rfl,jh,PY,sJ,hko⟩;have HN:Hid (BW w.heap.size b0 (Pl.nlT ((pre++[x]).map (·.1))) W1):=by
   show BW _ _ _ _;rw[Yr,List.map_singleton,Pl.EK,← kg.out];have e:(t++(⟨#[10]⟩:ByteArray)).data.toList=t.data.toList++[10]:=by simp[ByteArray.data_append]
   rw[← e];exact jh
  have HK:=uh (Xt PY (Xt sJ hko));clear jh PY sJ hko;gi_wp2
  exact⟨HK.out.2.2.from _,HK.out.1,HN.out,UM.out.trans HK.out.2.1⟩
 case done=>
  rintro D ys W hD P4 ⟨hp,Ld⟩ hK;rw[P4]at hp;have eU:=uh (T3 w.heap.size b0 _ W hp (Xg (Pl.xY tl (by intro t ht;rw[← P4]at ht;obtain⟨y,_,rfl⟩:=YA.1 ht;exact y.2)) (by have:=Oi.out;exact Xg (XJ _ this) (by decide))));rw[← HR.out]at eU;have Pp:Hid (W.heap[D]? =some (.deferred (some []))∧w3.heap.size≤D):=⟨hK,hD⟩
  have UM:=uh Ld;clear hp Ld hK hD k9 P4;go_wp2_with fail
  refine eU.out.mono ?_;rintro e W9 ⟨rfl,hU,hk9⟩;have HK9:=uh (hk9.same D _ Pp.out.1 rfl);have Rs:=uh (UM.out.trans hU);clear hU hk9;go_wp2;refine⟨by simp,.inl ⟨_,_,rfl,run_takeDeferred HK9.out, ?_⟩⟩;refine⟨.string R,by simp[results,Tryz.f5,go_sem],rfl,Rs.out.trans (belowK_b (w:=w) zE _ D _ _ (Xg HB.out.size Pp.out.2) HK9.out rfl rfl)⟩
 case stop=>
  rintro D c pre W hD Rn h hK;exact h.elim
end Go.Proofs.YtgiglpnaekbegaaGreatDoor
