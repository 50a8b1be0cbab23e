import Derived.BigFrame
import Derived.Great.BuildSlice
import Derived.Test.YtmgibmmpopoboaaECs
import Derived.Test.YtmgibmmpopoboaaETx
import Derived.Test.YtmgibmmpopoboaaEPu
namespace Go.Proofs.Ytmgibmmpopoboaa
open Go.RowKit Go.Deep
namespace RY
def chB (l:List Oper):List Nat→Bool
 |[]=>true
 |[_]=>true
 |x::y::r=>waits l y x&&(match l[x]? with
  |some o=>o.dst.isSome
  |none=>false)&& !(y::r).contains x&&chB l (y::r)
theorem yR {l:List Oper}:∀ {ch:List Nat},chB l ch=true→∀ k x y,ch[k]? =some x→ch[k+1]? =some y→waits l y x=true∧∃ o d,l[x]? =some o∧o.dst=some d
 |[],_,k,x,y,h,_=>by simp at h
 |[a],_,k,x,y,_,h=>by simp at h
 |a::b::r,hc,k,x,y,h1,h2=>by
  rw[chB,Bool.and_eq_true,Bool.and_eq_true,Bool.and_eq_true]at hc;obtain⟨⟨⟨hw,hd⟩,_⟩,hr⟩:=hc;cases k with
  |zero=>
   simp at h1 h2;subst h1;subst h2;refine⟨hw, ?_⟩;cases ho:l[a]? with
   |none=>rw[ho]at hd;cases hd
   |some o=>
    rw[ho]at hd;obtain⟨d,Ir⟩:=Option.isSome_iff_exists.1 hd;exact⟨o,d,rfl,Ir⟩
  |succ k=>exact yR hr k x y (by simpa using h1) (by simpa using h2)
theorem zD {l:List Oper}:∀ {ch:List Nat},chB l ch=true→ch.Nodup
 |[],_=>List.nodup_nil
 |[a],_=>by simp
 |a::b::r,hc=>by
  rw[chB,Bool.and_eq_true,Bool.and_eq_true,Bool.and_eq_true]at hc;rw[List.nodup_cons];refine⟨fun e=> ?_,zD hc.2⟩;have:=hc.1.2;simp only[Bool.not_eq_true',List.contains_eq_mem,decide_eq_false_iff_not]at this;exact this e
structure TCh (ch:List Nat) (Ws:Nat→World) (up:Nat→Bool) (j:Nat) (X:World):Prop where
 le:j≤ch.length
 yes:∀ k x,ch[k]? =some x→k<j→up x=true
 no:∀ k x,ch[k]? =some x→j≤k→up x=false
 eq:X=Ws j
def qh (l:List Oper) (c i:Nat):Bool:=(clo l 8 [c]).contains i
theorem CX {l:List Oper} {up:Nat→Bool} (gk:∀ (j:Nat) (o':Oper) (e:_),l[j]? =some o'→e∈o'.after→Region.binds .any e=true→up j=true→up e.on=true) (f:Nat) {S:List Nat} (hS:∀ x∈S,up x=true) {i:Nat} (h:(clo l f S).contains i=true):up i=true:=
 im gk f S hS i (List.contains_iff_mem.1 h)
theorem Cv {l:List Oper} {up:Nat→Bool} (gk:∀ (j:Nat) (o':Oper) (e:_),l[j]? =some o'→e∈o'.after→Region.binds .any e=true→up j=true→up e.on=true) {c i:Nat} (h:qh l c i=true) (hu:up c=true):up i=true:=by
 unfold qh at h;generalize 8=f at h;exact CX gk f (fun x hx=>by rw[List.mem_singleton]at hx;rw[hx];exact hu) h
def ws4 (a b c d:World):Nat→World
 |0=>a
 |1=>b
 |2=>c
 |_=>d
theorem xh {P:Program} {id:Nat} {Q:Exit→Act→World→Prop} {a0:Act} {w:World} {l:List Oper} (V:Nat→Value→Prop) (ch:List Nat) (Ws:Nat→World) (mx:List Nat) (hm:P.follows .mixedOrders=true)
  (hasc:asc .any l.toArray=true) (hap:cZ l=true) (dc:dr l a0.tmps.size=true) (hch:chB l ch=true) (IY:((List.range l.length).all fun i=>decide (ch.findIdx (fun c=>qh l c i)≤mx.getD i 0))=true) (h0:Ws 0=w.drew)
  (jc:∀ (i:Nat) (o:Oper),l[i]? =some o→∀ (a:Act),(∀ k,cW l k=true→a.eval (.tmp k)=a0.eval (.tmp k))→
   (∀ (j:Nat) (o':Oper) (k:Nat),l[j]? =some o'→o'.dst=some k→(∃ e∈o.after,e.on=j∧Region.binds .any e=true)→V j (a.eval (.tmp k)))→
   (∀ j,ch[j]? =some i→(∃ u,(execOp a.eval o).run P (Ws j)=.ok (.value u) (Ws (j+1))∧o.dst.isSome=true∧V i u)∨((execOp a.eval o).run P (Ws j)=.ok .skip (Ws (j+1))∧o.dst=none))∧
   (ch.contains i=false→∀ j,j≤mx.getD i 0→∃ u,(execOp a.eval o).run P (Ws j)=.ok (.value u) (Ws j)∧o.dst.isSome=true∧V i u))
  (hend:∀ (vs:Nat→Value),(∀ (i:Nat) (o:Oper) (k:Nat),l[i]? =some o→o.dst=some k→V i (vs k))→Q .normal (aE l a0 vs) (Ws ch.length)) (gk:∀ x∈ch,x<l.length):
  (Code.region id l.toArray true).wp P Q a0 w:=by
 have kY:=zD hch;have inj:∀ {k k' x:Nat},ch[k]? =some x→ch[k']? =some x→k=k':=fun {k k' x} h1 h2=>by
  exact(List.getElem?_inj (List.getElem?_eq_some_iff.1 h1).1 kY).1 (h1.trans h2.symm)
 refine AJ V (fun up _ X=>∃ j,TCh ch Ws up j X) hm hasc hap dc (fun _=>⟨0,zN,fun _ _ _ h=>absurd h (Nat.not_lt_zero _),fun _ _ _ _=>rfl,h0.symm⟩) ?_ ?_
 ·rintro up vals i o ho hi MP a X hk hd ⟨j,hT⟩;obtain⟨h1,h2⟩:=jc i o ho a hk (fun j o' k hj hk e=>by obtain⟨_,q2,q3⟩:=hd j o' k hj hk e;rw[q2];exact q3);have hX:=hT.eq;subst hX;cases hc:ch.contains i
  ·have iM:∀ k x,ch[k]? =some x→x≠i:=fun k x hx e=>by
    subst e;have:=List.mem_of_getElem? hx;rw[List.contains_eq_mem,decide_eq_false_iff_not]at hc;exact hc this
   have hj:j≤ch.findIdx (fun c=>qh l c i):=by
    rcases Nat.lt_or_ge (ch.findIdx (fun c=>qh l c i)) j with q|q
    ·exfalso;have bN:ch.findIdx (fun c=>qh l c i)<ch.length:=zL q hT.le;have hw:qh l (ch[ch.findIdx (fun c=>qh l c i)]) i=true:=List.findIdx_getElem (w:=bN) (p:=fun c=>qh l c i);have hu:=hT.yes _ _ (List.getElem?_eq_getElem bN) q;have:=Cv MP hw hu;rw[hi]at this;cases this
    ·exact q
   have lr:i<l.length:=(List.getElem?_eq_some_iff.1 ho).1;have EW:=(List.all_eq_true.1 IY) i (List.mem_range.2 lr);rw[decide_eq_true_eq]at EW;obtain⟨u,hr,jO,hV⟩:=h2 hc j (Nat.le_trans hj EW);refine Or.inl ⟨u,_,hr,jO,hV,j,hT.le,fun k x hx KF=> ?_,fun k x hx KF=> ?_,rfl⟩
   ·show ((x==i)||up x)=true;rw[hT.yes k x hx KF];simp
   ·show ((x==i)||up x)=false;rw[hT.no k x hx KF,show (x==i)=false from by simpa using iM k x hx];rfl
  ·obtain⟨k,hk⟩:∃ k,ch[k]? =some i:=by
    rw[List.contains_eq_mem,decide_eq_true_eq]at hc;exact List.getElem?_of_mem hc
   have hjk:j≤k:=by
    rcases Nat.lt_or_ge k j with q|q
    ·have:=hT.yes k i hk q;rw[hi]at this;cases this
    ·exact q
   have KF:k≤j:=by
    cases k with
    |zero=>exact zN
    |succ k=>
     have qL:k+1<ch.length:=(List.getElem?_eq_some_iff.1 hk).1;have hx:ch[k]? =some ch[k]:=List.getElem?_eq_getElem (by omega);obtain⟨hw,ox,d,hox,JT⟩:=yR hch k _ _ hx hk;have hu:=(hd _ _ _ hox JT (bm hw ho)).1;rcases Nat.lt_or_ge k j with q|q
     ·exact q
     ·have:=hT.no k _ hx q;rw[hu]at this;cases this
   have e:k=j:=by omega
   subst e;have st:TCh ch Ws (fun x=>(x==i)||up x) (k+1) (Ws (k+1)):=by
    have qL:k<ch.length:=(List.getElem?_eq_some_iff.1 hk).1;refine⟨qL,fun q x hx hq=> ?_,fun q x hx hq=> ?_,rfl⟩
    ·by_cases e:q=k
     ·subst e;rw[hk]at hx;injection hx with hx;subst hx;simp
     ·show ((x==i)||up x)=true;rw[hT.yes q x hx (by omega)];simp
    ·have iM:x≠i:=fun e=>by subst e;have:=inj hx hk;omega
     show ((x==i)||up x)=false;rw[hT.no q x hx (by omega),show (x==i)=false from by simpa using iM];rfl
   rcases h1 k hk with⟨u,hr,jO,hV⟩|⟨hr,jO⟩
   ·exact Or.inl ⟨u,_,hr,jO,hV,k+1,st⟩
   ·exact Or.inr ⟨_,hr,jO,k+1,st⟩
 ·rintro up vals vs X bC bd ⟨j,hT⟩;have hj:j=ch.length:=by
   rcases Nat.lt_or_ge j ch.length with q|q
   ·exfalso;have hx:ch[j]? =some ch[j]:=List.getElem?_eq_getElem q;have:=hT.no j _ hx zE;rw[bC _ (gk _ (List.getElem_mem q))]at this;cases this
   ·exact Nat.le_antisymm hT.le q
  have hX:=hT.eq;subst hX;rw[hj];exact hend vs (fun i o k hi hk=>by obtain⟨q1,q2⟩:=bd i o k hi hk;rw[q1];exact q2)
end RY
abbrev aC:List Sh:=[.s,.row 3 [.i],.b,.row 9 [.s]]
theorem dS {w:World} {tt:Bool} {F:List Nat} {a0:ByteArray} {n1:Nat} {e1:List Dt} {a2:Bool} {n3:Nat} {e3:List Dt} {cs:List Value} (h:Rep w tt aC F [.s a0,.row n1 e1,.b a2,.row n3 e3] cs):∃ F1 v1 F3 v3,F=F1++(F3++[])∧cs=[.string a0,v1,.bool a2,v3]∧Rep w tt [.row 3 [.i]] F1 [.row n1 e1] [v1]∧Rep w tt [.row 9 [.s]] F3 [.row n3 e3] [v3]:=by
 obtain⟨x0,rfl,h1⟩:=h.c_s;obtain⟨F1,G1,v1,x1,rfl,rfl,t1,h2⟩:=h1.c_r;obtain⟨x2,rfl,h3⟩:=h2.c_b;obtain⟨F3,G3,v3,x3,rfl,rfl,t3,h4⟩:=h3.c_r;obtain⟨rfl,rfl⟩:=h4.c_n;exact⟨F1,v1,F3,v3,rfl,rfl,t1,t3⟩
theorem qm {w:World} {a0:ByteArray} {n1:Nat} {e1:List Dt} {a2:Bool} {n3:Nat} {e3:List Dt} {cs:List Value} (h:Raw w aC [.s a0,.row n1 e1,.b a2,.row n3 e3] cs):∃ v1 v3,cs=[.string a0,v1,.bool a2,v3]∧Raw w [.row 3 [.i]] [.row n1 e1] [v1]∧Raw w [.row 9 [.s]] [.row n3 e3] [v3]:=by
 obtain⟨x0,rfl,h1⟩:=h.c_s;obtain⟨v1,x1,rfl,t1,h2⟩:=h1.c_r;obtain⟨x2,rfl,h3⟩:=h2.c_b;obtain⟨v3,x3,rfl,t3,h4⟩:=h3.c_r;obtain rfl:=h4.c_n;exact⟨v1,v3,rfl,t1,t3⟩
theorem ed {w:World} {tt:Bool} (a0:ByteArray) {F1:List Nat} {n1:Nat} {e1:List Dt} {v1:Value} (h1:Rep w tt [.row 3 [.i]] F1 [.row n1 e1] [v1]) (a2:Bool) {F3:List Nat} {n3:Nat} {e3:List Dt} {v3:Value} (h3:Rep w tt [.row 9 [.s]] F3 [.row n3 e3] [v3]):Rep w tt aC (F1++(F3++[])) [.s a0,.row n1 e1,.b a2,.row n3 e3] [.string a0,v1,.bool a2,v3]:=
 (.s a0 (h1.app (.b a2 (h3.app .nil))))
set_option maxHeartbeats 40000000
set_option maxRecDepth 8000
theorem Try.nX:Try.prog.underlying 37=some (.slice 3):=by kernel_rfl
theorem Try.cf:(Try.prog.info? 3).map (fun i=>(i.zero,i.size,i.bytes))=some (some (.int .i64 0),1,8):=by kernel_rfl
theorem Aq (s:ByteArray) (f k:Nat) (h1:f≤k) (h2:k≤s.size) (w:World):(Instr.slice 9 (.string s) (some (.int .i64 (f:Int))) (some (.int .i64 (k:Int))) none).run Try.prog w=.ok (.string (s.extract f k)) w:=by
 rw[run_slice_string_if w 9 s .i64 .i64 (f:Int) (k:Int) (by kernel_rfl),if_pos ⟨by omega,by omega⟩,if_pos ⟨by omega,by omega⟩];simp only[Int.toNat_natCast]
structure OR (w:World) (p:Nat) (key:ByteArray) (av:Value) (FA:List Nat) (n:Nat) (es:List Dt) (wr:World) (v:Value) (ts:List ByteArray):Prop where
 bel:Bel w wr
 res:aK wr w.heap.size 40 [.string {data:=#[]},.slice none 0 0,.bool false,.slice none 0 0]
 box:aK wr p 40 [.string key,av,.bool false,v]
 arg:Rep wr false [.row 3 [.i]] FA [.row n es] [av]
 row:TxR wr (p+1) v ts
theorem OR.put {w wr wb w1:World} {p:Nat} {key:ByteArray} {av v v':Value} {FA:List Nat} {n:Nat} {es:List Dt} {ts ts':List ByteArray} (h:OR w p key av FA n es wr v ts) (hwp:w.heap.size<p) (hFA:∀ b∈FA,b<p) (hb:Bel wr wb) (hg:wb.grownBy w1 v.ownBlock) (hx:TxR w1 (p+1) v' ts'):OR w p key av FA n es (w1.setCell ⟨p,3,none⟩ v') v' ts':=by
 have hn:∀ q,q<p+1→v.ownBlock≠some q:=fun q hq e=>by have:=(bK h.row e).1;omega
 have hm:Marks (fun b=>b=p) w1 (w1.setCell ⟨p,3,none⟩ v'):=Marks.sc (S:=fun b=>b=p) w1 rfl 3 v';refine⟨?_,((h.res.ae hb).grow hg (hn _ (by omega))).other (by omega) _ _,((h.box.ae hb).grow hg (hn _ (by omega))).set 3 v' (by simp),((h.arg.ae hb).grown hg fun b hb=>hn b (by have:=hFA b hb;omega)).aY hm fun b hb e=>by have:=hFA b hb;omega,dH hx hm fun b hb e=>by omega⟩;exact((h.row.ae hb).below (lo:=p+1) (ai h.bel hb) hg (by omega)).setCell (p:=⟨p,3,none⟩) (by show w.heap.size≤p;omega) _
theorem IS {w wr we:World} {p:Nat} {key:ByteArray} {av v:Value} {FA:List Nat} {n:Nat} {es:List Dt} {ts:List ByteArray} (h:OR w p key av FA n es wr v ts) (hwp:w.heap.size<p) (nd:FA.Nodup) (hFA:∀ b∈FA,w.heap.size<b∧b<p) (hm:Marks (fun b=>b=w.heap.size) wr we) (hb:Bel w we):
  Ans aC [.s key,.row n es,.b false,.row ts.length (txD ts)] w (.returned (.agg #[.string key,av,.bool false,v])) we:=by
 obtain⟨F,h1,h2,h3⟩:=TxR.done (show TxR we (p+1) v ts from dH h.row hm fun b hb e=>by omega);refine⟨[.string key,av,.bool false,v],FA++(F++[]),rfl,ed key (h.arg.aY hm fun b hb e=>by have:=hFA b hb;omega) false h1, ?_,fun b fE=> ?_,hb⟩
 ·rw[List.append_nil];exact vD nd h2 (fun b hb=>(hFA b hb).2) (fun b hb=>by have:=h3 b hb;omega)
 ·rw[List.append_nil]at fE;rcases List.mem_append.1 fE with q|q
  ·have:=hFA b q;omega
  ·have:=h3 b q;omega
def VOr (wz p f k g cap:Nat) (s X:ByteArray) (va:Value) (m:Nat):Nat→Value→Prop
 |0,u|8,u=>u=.pointer (some ⟨p,3,none⟩)
 |1,u=>u=va
 |2,u=>u=.string s
 |3,u=>u=.int .i64 (f:Int)
 |4,u=>u=.int .i64 (k:Int)
 |5,u=>u=.string X
 |6,u=>u=.slice (some ⟨wz,0,none⟩) 1 1
 |7,u=>u=.slice (some ⟨g,0,none⟩) (m+1) cap
 |_,_=>True
theorem Cw (key s:ByteArray) (va:Option Addr) (n vc:Nat) (es:List Dt) (w:World) (hs:s.size≤1048576) (hv:Raw w [.row 3 [.i]] [.row n es] [.slice va n vc]) (hn:n≤4194304):
  Calls Try.prog 52 #[.string key,.string s,.slice va n vc] w (Ans aC [.s key,.row n es,.b false,.row (Pl.eQ s).length (txD (Pl.eQ s))] w):=by
 obtain⟨wa,aS⟩:∃ wa,wa=w.alloc (.cells #[.string {data:=#[]},.slice none 0 0,.bool false,.slice none 0 0] 40):=⟨_,rfl⟩
 have gh:Bel w wa:=by rw[aS];exact ah zR _
 have Di:wa.heap.size=w.heap.size+1:=by rw[aS];simp
 have cC:Hid (aK wa w.heap.size 40 [.string {data:=#[]},.slice none 0 0,.bool false,.slice none 0 0]):=by show aK _ _ _ _;rw[aS];exact aK.new w [.string {data:=#[]},.slice none 0 0,.bool false,.slice none 0 0] 40 _ rfl
 obtain⟨wb,fP⟩:∃ wb,wb=wa.alloc (.cells #[] 3):=⟨_,rfl⟩
 have fL:Bel wa wb:=by rw[fP];exact ah zR _
 obtain⟨v',W1,xs,cg,hg,bZ⟩:=i6 (P:=Try.prog) wa.heap.size 37 37 3 3 1 8 _ Try.nX Try.cf rfl (by decide) (by decide) [.i] rfl (by simp[cO]) wb (.slice (some ⟨wa.heap.size,0,none⟩) 0 0) (Or.inr ⟨wa.heap.size,rfl,zE,by rw[fP];exact heap_alloc_new _ _⟩) fL.size n es (.slice va n vc) ((hv.ae gh).ae fL) hn;rw[fP]at cg;obtain⟨wx,wc,ot⟩:=hg.shape;subst ot;obtain⟨FA,rA,ndA,frA⟩:=hg.done;obtain⟨p,hp⟩:∃ p,p=W1.heap.size:=⟨_,rfl⟩
 obtain⟨wd,IB⟩:∃ wd,wd=W1.alloc (.cells #[.string key,.slice wx n wc,.bool false,.slice none 0 0] 40):=⟨_,rfl⟩
 have H0:Hid (OR w p key (.slice wx n wc) FA n es wd (.slice none 0 0) []):=by
  have dP:Bel W1 wd:=by rw[IB];exact ah zR _
  show OR _ _ _ _ _ _ _ _ _ _;exact⟨ai (ai (ai gh fL) bZ) dP,((cC.out.ae fL).ae bZ).ae dP,by rw[IB,hp];exact aK.new W1 [.string key,.slice wx n wc,.bool false,.slice none 0 0] 40 _ rfl,rA.ae dP,TxR.nil _ _⟩
 have B3:Hid (FA.Nodup∧∀ b∈FA,w.heap.size<b∧b<p):=⟨ndA,fun b hb=>⟨by have:=frA b hb;omega,by rw[hp];exact rA.lt b hb⟩⟩
 have HWP:Hid (w.heap.size<p):=by show _<_;rw[hp];have:=gh.size;have:=fL.size;have:=bZ.size;omega
 clear hg rA ndA frA cC hv fP fL bZ Di gh;go_enter Try.func52,Try.ntmps52
 go_upto_region 1 with fail
 rw[← aS];clear aS;go_upto_region 2 with(at_builtin;refine Go.Lib.wpList_append_run _ rfl _ _ 37 37 rfl _ _ rfl rfl _ W1 cg ?_)
 rw[← IB,← hp];clear IB hp cg;go_wp2;go_loopw [8,9] (fun vf vi wr=>∃ (f k:Nat) (v:Value) (ts:List ByteArray),vf=.int .i64 f∧vi=.int .i64 k∧OR w p key (.slice wx n wc) FA n es wr v ts∧ts.length≤k∧k≤s.size+1∧f≤k∧((k≤s.size∧Pl.eQ s=ts++Pl.jG s f k)∨(k=s.size+1∧Pl.eQ s=ts))) (fun _ vi _=>s.size+1 - (intOf vi).toNat)
 case atStart=>exact⟨0,0,_,[],rfl,rfl,H0.out,zE,by omega,zE,Or.inl ⟨zN,by rw[Pl.uu];rfl⟩⟩
 case round=>
  obtain⟨f,k,v,ts,rfl,rfl,hO,htl,yz,hfk,J7⟩:=hrel;have HO:=uh hO;have DP:=uh J7;have Ms:=uh htl;obtain⟨sa,sc,Jm⟩:=hO.row.shape;subst Jm;clear hO J7 htl H0;by_cases hle:k≤s.size
  rotate_left
  ·have Dn:Hid (Pl.eQ s=ts):=by rcases DP.out with h|h;exact absurd h.1 hle;exact h.2
   have GZ:=uh HO.out.bel;go_upto_region 9 with fail
   have jH:=HO.out.box.at_;have lf:=HO.out.box.own.lt;have uQ:=HO.out.res.own.lt;have bG:wr.there w.heap.size 0 (#[.string key,.slice wx n wc,.bool false,.slice sa ts.length sc]:Array Value).size:=aR HO.out.res.own _ _ (by simp);obtain⟨we,bj⟩:∃ we,we=wr.setCells w.heap.size 0 [.string key,.slice wx n wc,.bool false,.slice sa ts.length sc]:=⟨_,rfl⟩
   have dv:we.rangeAt w.heap.size 0 [.string key,.slice wx n wc,.bool false,.slice sa ts.length sc]:=by rw[bj];exact World.rangeAt_setCells_same _ _ _ _ bG
   have oB:Hid (Marks (fun b=>b=w.heap.size) wr we):=by show Marks _ _ _;rw[bj];exact aN (S:=fun b=>b=w.heap.size) rfl _ _ _
   have gR:Hid (Bel w we):=by show Below _ _ _;rw[bj];exact cG zE _ _ _ GZ.out
   go_wp2_with (first|(refine wpList_load_mid rfl 40 _ rfl p 0 rfl [.string key,.slice wx n wc,.bool false,.slice sa ts.length sc] _ jH Try.underlying40 rfl (by kernel_rfl) ?_)|(refine wpList_store_mid rfl 40 _ _ rfl w.heap.size 0 #[.string key,.slice wx n wc,.bool false,.slice sa ts.length sc] rfl rfl bG (by kernel_rfl) (by simp[Value.oneCell']) ?_))
   first|rw[← bj]|(simp only[List.toList_toArray];rw[← bj])
   try simp only[Act.put]
   refine bodyPost_ret (v:=.agg #[.string key,.slice wx n wc,.bool false,.slice sa ts.length sc]) (by simp[results,Try.results52,asAddr,run_loadVar_mid (P:=Try.prog) _ _ _ 40 [.string key,.slice wx n wc,.bool false,.slice sa ts.length sc] _ dv Try.underlying40 rfl (by kernel_rfl)]) rfl ?_;rw[Dn.out];exact IS HO.out HWP.out B3.out.1 B3.out.2 oB.out gR.out
  have Lm:Hid (Pl.eQ s=ts++Pl.jG s f k):=by
   rcases DP.out with h|h
   ·exact h.2
   ·exact absurd h.1 (by omega)
  clear DP;have hcut:(k=s.size)∨(∃ h:k<s.size,s[k].toNat=32)∨(∃ h:k<s.size,s[k].toNat≠32):=by
   by_cases e:k=s.size
   ·exact Or.inl e
   ·by_cases e2:s[k].toNat=32
    ·exact Or.inr (Or.inl ⟨by omega,e2⟩)
    ·exact Or.inr (Or.inr ⟨by omega,e2⟩)
  have BE:Hid (∀ w,(Instr.slice 9 (.string s) (some (.int .i64 (f:Int))) (some (.int .i64 (k:Int))) none).run Try.prog w=.ok (.string (s.extract f k)) w):=fun w=>Aq s f k hfk hle w;obtain⟨X,hX⟩:∃ X,X=s.extract f k:=⟨_,rfl⟩
  rw[← hX]at BE;have vU:IntKind.i64.wrap ((k:Int)+1)=(k:Int)+1:=IntWalk.i64_in _ ⟨by omega,by omega⟩;rcases hcut with he|⟨bN,hc⟩|⟨bN,hc⟩
  rotate_right
  ·have tx:Hid (Pl.eQ s=ts++Pl.jG s f (k+1)):=by show _=_;rw[Lm.out,Pl.CD s f k hfk bN hc]
   have d1:((k:Int)==(s.size:Int))=false:=by simp;omega
   have d2:((s[k].toNat:Int)==32)=false:=by simp;omega
   clear hc;go_wp2;go_roundw
   case rel=>exact⟨f,k+1,_,ts,rfl,by go_num,HO.out,by have:=Ms.out;omega,by omega,by omega,Or.inl ⟨by omega,tx.out⟩⟩
   case measure=>simp[intOf];omega
  all_goals
   have tx:Hid (((k+1≤s.size∧Pl.eQ s=(ts++[X])++Pl.jG s (k+1) (k+1))∨(k+1=s.size+1∧Pl.eQ s=ts++[X]))):=by
    first
     |(refine Or.inr ⟨by omega, ?_⟩;rw[Lm.out,hX];subst he;rw[Pl.y8])
     |(refine Or.inl ⟨by omega, ?_⟩;rw[Lm.out,Pl.At s f k bN hc,hX];simp)
   first
    |have d1:((k:Int)==(s.size:Int))=true:=by simp;omega
    |(have d1:((k:Int)==(s.size:Int))=false:=by simp;omega
      have d2:((s[k].toNat:Int)==32)=true:=by simp;omega)
   have GH:Bel wr wr.drew:=Below.drew zR;obtain⟨Wb,KE⟩:∃ Wb,Wb=wr.drew.alloc (.cells #[.string X] 9):=⟨_,rfl⟩
   have GQ:Bel wr Wb:=by rw[KE];exact ah GH _
   obtain⟨g,cap,W1',cg,hx1,cN⟩:=tS (HO.out.row.ae GQ) 38 wr.heap.size 1 1 [X] rfl (by rw[KE];exact World.news_of_block (cs:=#[.string X]) (heap_alloc_new wr.drew _)) (by decide) (by have:=Ms.out;omega) (by have:=HO.out.box.own.lt;have:=GQ.size;omega);have c0:=(HO.out.box.ae GH).get 3 _ rfl;have c0b:=(HO.out.box.ae GQ).get 3 _ rfl;have qO:=uh (HO.out.put HWP.out (fun b hb=>(B3.out.2 b hb).2) GQ cN hx1);have tu:(Value.slice sa ts.length sc).ownBlock≠some p:=fun e=>by have:=(bK HO.out.row e).1;omega
   have x0:=((HO.out.box.ae GQ).grow cN tu).get 3 _ rfl;have xf:=((HO.out.box.ae GQ).grow cN tu).own.frozen 3;clear hx1 cN tu GQ GH;go_upto_region 7 with fail
   refine RY.xh (VOr wr.heap.size p f k g cap s X (.slice sa ts.length sc) ts.length) [6,7,9] (RY.ws4 wr.drew Wb W1' (W1'.setCell ⟨p,3,none⟩ (.slice (some ⟨g,0,none⟩) (ts.length+1) cap))) [1,1,0,0,0,0,0,1,2,2] (by kernel_rfl) (by kernel_rfl) (by kernel_rfl) (by kernel_rfl) (by kernel_rfl) (by kernel_rfl) rfl ?_ ?_ (by simp)
   ·intro i o ho a hk hd;match i,ho with
    |0,rfl|8,rfl=>
     have s7:a.eval (.tmp 7)=.pointer (some ⟨p,0,none⟩):=(hk 7 rfl).trans rfl;have t7:a.tmps[7]?.getD undef=.pointer (some ⟨p,0,none⟩):=(RY.af a 7).trans s7;refine⟨fun j hj=>absurd (List.mem_of_getElem? hj) (by decide),fun _ j hj=> ?_⟩;exact⟨.pointer (some ⟨p,3,none⟩),by simp[execOp,go_sem,t7],rfl,rfl⟩
    |1,rfl=>
     have pY:a.eval (.tmp 31)=.pointer (some ⟨p,3,none⟩):=hd 0 _ 31 rfl rfl ⟨⟨0,.data⟩,by simp,rfl,rfl⟩;have t31:a.tmps[31]?.getD undef=.pointer (some ⟨p,3,none⟩):=(RY.af a 31).trans pY;refine⟨fun j hj=>absurd (List.mem_of_getElem? hj) (by decide),fun _ j hj=> ?_⟩;replace hj:j≤1:=hj
     match j,hj with
     |0,_=>exact⟨.slice sa ts.length sc,by simp[RY.ws4,execOp,go_sem,t31,c0],rfl,rfl⟩
     |1,_=>exact⟨.slice sa ts.length sc,by simp[RY.ws4,execOp,go_sem,t31,c0b],rfl,rfl⟩
     |n+2,hj=>exact absurd hj (by omega)
    |2,rfl=>
     have s1:a.eval (.tmp 1)=.string s:=(hk 1 rfl).trans rfl;have t1:a.tmps[1]?.getD undef=.string s:=(RY.af a 1).trans s1;refine⟨fun j hj=>absurd (List.mem_of_getElem? hj) (by decide),fun _ j hj=> ?_⟩;exact⟨.string s,by simp[execOp,go_sem,t1],rfl,rfl⟩
    |3,rfl=>
     have s8:a.eval (.tmp 8)=.int .i64 (f:Int):=(hk 8 rfl).trans rfl;have t8:a.tmps[8]?.getD undef=.int .i64 (f:Int):=(RY.af a 8).trans s8;refine⟨fun j hj=>absurd (List.mem_of_getElem? hj) (by decide),fun _ j hj=> ?_⟩;exact⟨.int .i64 (f:Int),by simp[execOp,go_sem,t8],rfl,rfl⟩
    |4,rfl=>
     have s9:a.eval (.tmp 9)=.int .i64 (k:Int):=(hk 9 rfl).trans rfl;have t9:a.tmps[9]?.getD undef=.int .i64 (k:Int):=(RY.af a 9).trans s9;refine⟨fun j hj=>absurd (List.mem_of_getElem? hj) (by decide),fun _ j hj=> ?_⟩;exact⟨.int .i64 (k:Int),by simp[execOp,go_sem,t9],rfl,rfl⟩
    |5,rfl=>
     have og:a.eval (.tmp 33)=.string s:=hd 2 _ 33 rfl rfl ⟨⟨2,.data⟩,by simp,rfl,rfl⟩;have t33:a.tmps[33]?.getD undef=.string s:=(RY.af a 33).trans og;have oz:a.eval (.tmp 34)=.int .i64 (f:Int):=hd 3 _ 34 rfl rfl ⟨⟨3,.data⟩,by simp,rfl,rfl⟩;have t34:a.tmps[34]?.getD undef=.int .i64 (f:Int):=(RY.af a 34).trans oz;have k6:a.eval (.tmp 35)=.int .i64 (k:Int):=hd 4 _ 35 rfl rfl ⟨⟨4,.data⟩,by simp,rfl,rfl⟩;have t35:a.tmps[35]?.getD undef=.int .i64 (k:Int):=(RY.af a 35).trans k6;refine⟨fun j hj=>absurd (List.mem_of_getElem? hj) (by decide),fun _ j hj=> ?_⟩;replace hj:j≤0:=hj
     match j,hj with
     |0,_=>exact⟨.string X,by simp[RY.ws4,execOp,go_sem,t33,t34,t35,BE.out],rfl,rfl⟩
     |n+1,hj=>exact absurd hj (by omega)
    |6,rfl=>
     have k9:a.eval (.tmp 36)=.string X:=hd 5 _ 36 rfl rfl ⟨⟨5,.data⟩,by simp,rfl,rfl⟩;have t36:a.tmps[36]?.getD undef=.string X:=(RY.af a 36).trans k9;refine⟨fun j hj=> ?_,fun h=>absurd h (by decide)⟩;obtain rfl:j=0:=by
      match j,hj with
      |0,hj=>first|rfl|(simp at hj)
      |1,hj=>first|rfl|(simp at hj)
      |2,hj=>first|rfl|(simp at hj)
      |n+3,hj=>simp at hj
     exact Or.inl ⟨.slice (some ⟨wr.heap.size,0,none⟩) 1 1,by rw[KE];simp[RY.ws4,execOp,go_sem,t36],rfl,rfl⟩
    |7,rfl=>
     have o6:a.eval (.tmp 32)=.slice sa ts.length sc:=hd 1 _ 32 rfl rfl ⟨⟨1,.data⟩,by simp,rfl,rfl⟩;have t32:a.tmps[32]?.getD undef=.slice sa ts.length sc:=(RY.af a 32).trans o6;have lj:a.eval (.tmp 37)=.slice (some ⟨wr.heap.size,0,none⟩) 1 1:=hd 6 _ 37 rfl rfl ⟨⟨6,.data⟩,by simp,rfl,rfl⟩;have t37:a.tmps[37]?.getD undef=.slice (some ⟨wr.heap.size,0,none⟩) 1 1:=(RY.af a 37).trans lj;refine⟨fun j hj=> ?_,fun h=>absurd h (by decide)⟩;obtain rfl:j=1:=by
      match j,hj with
      |0,hj=>first|rfl|(simp at hj)
      |1,hj=>first|rfl|(simp at hj)
      |2,hj=>first|rfl|(simp at hj)
      |n+3,hj=>simp at hj
     exact Or.inl ⟨_,bg (.tmp 32) (.tmp 37) 38 rfl o6 lj cg,rfl,rfl⟩
    |9,rfl=>
     have mu:a.eval (.tmp 39)=.pointer (some ⟨p,3,none⟩):=hd 8 _ 39 rfl rfl ⟨⟨8,.data⟩,by simp,rfl,rfl⟩;have t39:a.tmps[39]?.getD undef=.pointer (some ⟨p,3,none⟩):=(RY.af a 39).trans mu;have lY:a.eval (.tmp 38)=.slice (some ⟨g,0,none⟩) (ts.length+1) cap:=hd 7 _ 38 rfl rfl ⟨⟨7,.data⟩,by simp,rfl,rfl⟩;have t38:a.tmps[38]?.getD undef=.slice (some ⟨g,0,none⟩) (ts.length+1) cap:=(RY.af a 38).trans lY;refine⟨fun j hj=> ?_,fun h=>absurd h (by decide)⟩;obtain rfl:j=2:=by
      match j,hj with
      |0,hj=>first|rfl|(simp at hj)
      |1,hj=>first|rfl|(simp at hj)
      |2,hj=>first|rfl|(simp at hj)
      |n+3,hj=>simp at hj
     exact Or.inr ⟨by simp[RY.ws4,execOp,go_sem,t39,t38,x0,xf],rfl⟩
    |n+10,ho=>simp at ho
   intro vs bd;simp only[RY.aE,Act.put,List.setIfInBounds_toArray,List.set_cons_zero,List.set_cons_succ];generalize vs 31=g31,vs 32=g32,vs 33=g33,vs 34=g34,vs 35=g35,vs 36=g36,vs 37=g37,vs 38=g38,vs 39=g39;clear bd;clear c0 c0b x0 xf cg KE;show _;go_wp2;go_roundw
   case rel=>exact⟨k+1,k+1,_,ts++[X],by go_num,by go_num,qO.out,by rw[List.length_append];have:=Ms.out;simp;omega,by omega,zE,tx.out⟩
   case measure=>simp[intOf];omega
theorem Ag (key:ByteArray) (va:Option Addr) (n vc:Nat) (es:List Dt) (w:World) (hv:Raw w [.row 3 [.i]] [.row n es] [.slice va n vc]) (hn:n≤4194304):
  Calls Try.prog 53 #[.string key,.slice va n vc] w (Ans aC [.s key,.row n es,.b true,.row 0 []] w):=by
 obtain⟨wa,aS⟩:∃ wa,wa=w.alloc (.cells #[.string {data:=#[]},.slice none 0 0,.bool false,.slice none 0 0] 40):=⟨_,rfl⟩
 have gh:Bel w wa:=by rw[aS];exact ah zR _
 have Di:wa.heap.size=w.heap.size+1:=by rw[aS];simp
 have cC:Hid (aK wa w.heap.size 40 [.string {data:=#[]},.slice none 0 0,.bool false,.slice none 0 0]):=by show aK _ _ _ _;rw[aS];exact aK.new w [.string {data:=#[]},.slice none 0 0,.bool false,.slice none 0 0] 40 _ rfl
 obtain⟨wb,fP⟩:∃ wb,wb=wa.alloc (.cells #[] 3):=⟨_,rfl⟩
 have fL:Bel wa wb:=by rw[fP];exact ah zR _
 obtain⟨v',W1,xs,cg,hg,bZ⟩:=i6 (P:=Try.prog) wa.heap.size 37 37 3 3 1 8 _ Try.nX Try.cf rfl (by decide) (by decide) [.i] rfl (by simp[cO]) wb (.slice (some ⟨wa.heap.size,0,none⟩) 0 0) (Or.inr ⟨wa.heap.size,rfl,zE,by rw[fP];exact heap_alloc_new _ _⟩) fL.size n es (.slice va n vc) ((hv.ae gh).ae fL) hn;rw[fP]at cg;obtain⟨wx,wc,ot⟩:=hg.shape;subst ot;obtain⟨FA,rA,ndA,frA⟩:=hg.done;obtain⟨p,hp⟩:∃ p,p=W1.heap.size:=⟨_,rfl⟩
 have B3:Hid (FA.Nodup∧∀ b∈FA,w.heap.size<b):=⟨ndA,fun b hb=>by have:=frA b hb;omega⟩
 have G7:=uh rA;have GZ:Hid (Bel w W1):=ai (ai gh fL) bZ;replace cC:=uh ((cC.out.ae fL).ae bZ)
 clear hg rA ndA frA hv hp gh fL bZ Di fP;have uQ:=cC.out.own.lt;have bG:W1.there w.heap.size 0 (#[.string key,.slice wx n wc,.bool true,.slice none 0 0]:Array Value).size:=aR cC.out.own _ _ (by simp);obtain⟨we,bj⟩:∃ we,we=W1.setCells w.heap.size 0 [.string key,.slice wx n wc,.bool true,.slice none 0 0]:=⟨_,rfl⟩
 have dv:we.rangeAt w.heap.size 0 [.string key,.slice wx n wc,.bool true,.slice none 0 0]:=by rw[bj];exact World.rangeAt_setCells_same _ _ _ _ bG
 have oB:Hid (Marks (fun b=>b=w.heap.size) W1 we):=by show Marks _ _ _;rw[bj];exact aN (S:=fun b=>b=w.heap.size) rfl _ _ _
 have gR:Hid (Bel w we):=by show Below _ _ _;rw[bj];exact cG zE _ _ _ GZ.out
 go_enter Try.func53,Try.ntmps53
 go_upto_region 1 with fail
 rw[← aS];clear aS;go_wp2_with (first|(at_builtin;refine Go.Lib.wpList_append_run _ rfl _ _ 37 37 rfl _ _ rfl rfl _ W1 cg ?_)|(refine wpList_store_mid rfl 40 _ _ rfl w.heap.size 0 #[.string key,.slice wx n wc,.bool true,.slice none 0 0] rfl rfl bG (by kernel_rfl) (by simp[Value.oneCell']) ?_))
 first|rw[← bj]|(simp only[List.toList_toArray];rw[← bj])
 try simp only[Act.put]
 refine bodyPost_ret (v:=.agg #[.string key,.slice wx n wc,.bool true,.slice none 0 0]) (by simp[results,Try.results53,asAddr,run_loadVar_mid (P:=Try.prog) _ _ _ 40 [.string key,.slice wx n wc,.bool true,.slice none 0 0] _ dv Try.underlying40 rfl (by kernel_rfl)]) rfl ?_;exact⟨[.string key,.slice wx n wc,.bool true,.slice none 0 0],FA++([]++[]),rfl,ed key (G7.out.aY oB.out fun b hb e=>by have:=B3.out.2 b hb;omega) true (.emp _ _ none rfl .nil),by rw[List.append_nil,List.append_nil];exact B3.out.1,fun b hb=>by rw[List.append_nil,List.append_nil]at hb;have:=B3.out.2 b hb;omega,gR.out⟩
theorem Try.eh:Try.prog.underlying 33=some (.slice 40):=by kernel_rfl
theorem Try.jq:(Try.prog.info? 40).map (fun i=>(i.zero,i.size,i.bytes))=some (some (.agg #[.string {data:=#[]},.slice none 0 0,.bool false,.slice none 0 0]),4,72):=by kernel_rfl
def ruD (r:Pl.Ru):List Dt:=[.s r.key,.row r.args.length (r.args.map .i),.b r.many,.row r.dflt.length (txD r.dflt)]
def bQ (l:List Pl.Ru):Dt:=.row l.length (l.flatMap ruD)
theorem vF (W:World):∀ xs:List Int,Raw W (bP xs.length [.i]) (xs.map .i) (xs.map (.int .i64))
 |[]=> .nil
 |x::xs=>by rw[List.length_cons,cR];exact .i x (vF W xs)
theorem uY (W:World) (xs:List Int) (cs:Array Value) (mE:cs.toList=xs.map (.int .i64)) (hl:xs.length≤100):Raw (W.alloc (.cells cs 3)) [.row 3 [.i]] [.row xs.length (xs.map .i)] [.slice (some ⟨W.heap.size,0,none⟩) xs.length xs.length]:=by
 refine .row _ _ W.heap.size 0 xs.length xs.length (xs.map (.int .i64)) (xs.map .i) (by simp) (by unfold maxLen;omega) ?_ (vF _ xs) .nil;intro j v hv;rw[Nat.zero_add];refine(World.cell?_alloc_at _ _ _ _ rfl).trans ?_;rw[← mE]at hv;simpa using hv
def Fq (r:Pl.Ru) (W:World) (e:Ending) (W':World):Prop:=∃ a1 c1 a3 n3 c3 F,e=.returned (.agg #[.string r.key,.slice a1 r.args.length c1,.bool r.many,.slice a3 n3 c3])∧Rep W' false aC F (ruD r) [.string r.key,.slice a1 r.args.length c1,.bool r.many,.slice a3 n3 c3]∧F.Nodup∧(∀ b∈F,W.heap.size≤b)∧Bel W W'
theorem vr {r:Pl.Ru} {W:World} {o:Obj} {e:Ending} {W':World} (h:Ans aC (ruD r) (W.alloc o) e W'):Fq r W e W':=by
 obtain⟨c,F,he,hr,nd,lo,hb⟩:=h;obtain⟨F1,v1,F3,v3,hF,hc,r1,r3⟩:=dS hr;subst hc;obtain⟨a1,c1,h1⟩:=r1.raw.aP;obtain⟨a3,c3,h3⟩:=r3.raw.aP;subst h1;subst h3;exact⟨a1,c1,a3,_,c3,F,he,hr,nd,fun b fE=>by have:=lo b fE;simp at this;omega,ai (ah zR _) hb⟩
theorem jE (r:Pl.Ru) (s:ByteArray) (cs:Array Value) (mE:cs.toList=r.args.map (.int .i64)) (W:World) (hs:s.size≤1048576) (hn:r.args.length≤100) (hm:r.many=false) (hd:Pl.eQ s=r.dflt):
  Calls Try.prog 52 #[.string r.key,.string s,.slice (some ⟨W.heap.size,0,none⟩) r.args.length r.args.length] (W.alloc (.cells cs 3)) (Fq r W):=by
 refine(Cw r.key s (some ⟨W.heap.size,0,none⟩) r.args.length r.args.length (r.args.map .i) _ hs (uY W r.args cs mE hn) (by omega)).mono ?_;intro e w' h;refine vr ?_ (o:=.cells cs 3);unfold ruD;rw[hm,← hd];exact h
theorem Eo (r:Pl.Ru) (cs:Array Value) (mE:cs.toList=r.args.map (.int .i64)) (W:World) (hn:r.args.length≤100) (hm:r.many=true) (hd:r.dflt=[]):
  Calls Try.prog 53 #[.string r.key,.slice (some ⟨W.heap.size,0,none⟩) r.args.length r.args.length] (W.alloc (.cells cs 3)) (Fq r W):=by
 refine(Ag r.key (some ⟨W.heap.size,0,none⟩) r.args.length r.args.length (r.args.map .i) _ (uY W r.args cs mE hn) (by omega)).mono ?_;intro e w' h;refine vr ?_ (o:=.cells cs 3);unfold ruD;rw[hm,hd];exact h
structure Acc (w W:World) (l:List Pl.Ru) (G:List Nat) (cs:List Value):Prop where
 rep:Rep W false (bP l.length aC) G (l.flatMap ruD) cs
 nd:G.Nodup
 lo:∀ b∈G,w.heap.size≤b
 bel:Bel w W
theorem Acc.push {w W W':World} {l:List Pl.Ru} {G F:List Nat} {cs c:List Value} {r:Pl.Ru} (h:Acc w W l G cs) (hr:Rep W' false aC F (ruD r) c) (nd:F.Nodup) (lo:∀ b∈F,W.heap.size≤b) (hb:Bel W W'):Acc w W' (l++[r]) (G++F) (cs++c):=by
 refine⟨?_,vD h.nd nd (fun b hb=>h.rep.lt b hb) lo,CV h.lo fun b hb=>Nat.le_trans h.bel.size (lo b hb),ai h.bel hb⟩;rw[List.length_append,List.length_singleton,dx,List.flatMap_append,List.flatMap_singleton];exact(h.rep.ae hb).app hr
theorem Acc.done {w W:World} {l:List Pl.Ru} {G:List Nat} {cs:List Value} (h:Acc w W l G cs) (ca:Array Value) (hca:ca.toList=cs) (hl:l.length≤100):fe [.row 40 aC] (bQ l) w (.returned (.slice (some ⟨W.heap.size,0,none⟩) l.length l.length)) (W.alloc (.cells ca 40)):=by
 have hb:Bel W (W.alloc (.cells ca 40)):=ah zR _;have gk:cs.length=l.length*4:=by rw[h.rep.len,bq];rfl
 refine⟨_,W.heap.size::(G++[]),rfl,.row 40 aC W.heap.size 0 l.length l.length 40 (l.length*4) cs (l.flatMap ruD) G ?_ ?_ ?_ ?_ ?_ (h.rep.ae hb) .nil, ?_, ?_,ai h.bel hb⟩
 ·exact aL.alloc W ca 40 _ (by rw[← Array.length_toList,hca,gk])
 ·show 0+l.length*4≤l.length*4;omega
 ·intro h;cases h
 ·exact⟨by unfold maxLen;omega,zE⟩
 ·intro j v hv;rw[Nat.zero_add];refine(World.cell?_alloc_at _ _ _ _ rfl).trans ?_;rw[← hca]at hv;simpa using hv
 ·rw[List.append_nil,List.nodup_cons];exact⟨fun e=>by have:=h.rep.lt _ e;omega,h.nd⟩
 ·intro b fE;rw[List.append_nil]at fE;rcases List.mem_cons.1 fE with rfl|q
  ·exact h.bel.size
  ·exact h.lo b q
theorem Acc.nil (w:World):Acc w w [] [] []:=⟨.nil,List.nodup_nil,by simp,zR⟩
theorem cB (s:ByteArray) (w:World):
  Calls Try.prog 23 #[.string s] w (fe [.row 40 aC] (bQ (Pl.aj s)) w):=by
 obtain⟨i0,eT,ee,gi,jT⟩:=iZ Try.jq;have A0:=uh (Acc.nil w);cases hteam:(s.toList==[116,101,97,109])
 rotate_left
 ·have HR:Hid (Pl.aj s=Pl.iY):=by show _=_;unfold Pl.aj;rw[if_pos hteam]
  go_enter Try.func23,Try.ntmps23
  go_upto_region 3 with fail
  clear hteam;go_wp2_with fail
  refine(jE ⟨{data:=#[99,111,112,105,101,115]},[1],false,[{data:=#[49,48,48]}]⟩ ({data:=#[49,48,48]}) #[.int .i64 1] rfl w (by decide) (by decide) rfl Pl.mC).mono ?_;rintro e w1 ⟨a0,b0,c0,m0,d0,F0,rfl,r,nd,lo,hb⟩;have A1:=uh (A0.out.push r nd lo hb);clear r nd lo hb A0;go_wp2_with fail
  refine(jE ⟨{data:=#[114,111,111,109]},[1],false,[{data:=#[49,48,48,48]}]⟩ ({data:=#[49,48,48,48]}) #[.int .i64 1] rfl w1 (by decide) (by decide) rfl Pl.oO).mono ?_;rintro e w2 ⟨a1,b1,c1,m1,d1,F1,rfl,r,nd,lo,hb⟩;have A2:=uh (A1.out.push r nd lo hb);clear r nd lo hb A1;have HD:=uh (A2.out.done #[.string ({data:=#[99,111,112,105,101,115]}),.slice a0 1 b0,.bool false,.slice c0 m0 d0,.string ({data:=#[114,111,111,109]}),.slice a1 1 b1,.bool false,.slice c1 m1 d1] rfl (by decide));go_wp2_with (refine wpList_buildSlice rfl 33 40 2 _ rfl #[.string ({data:=#[99,111,112,105,101,115]}),.slice a0 1 b0,.bool false,.slice c0 m0 d0,.string ({data:=#[114,111,111,109]}),.slice a1 1 b1,.bool false,.slice c1 m1 d1] i0 _ Try.eh eT ee (by rw[gi];decide) (by rw[gi];decide) (by rw[gi];kernel_rfl) ?_)
  go_ret;rw[HR.out];exact HD.out
 cases hberth:(s.toList==[98,101,114,116,104])
 rotate_left
 ·have HR:Hid (Pl.aj s=Pl.ix):=by show _=_;unfold Pl.aj;rw[if_neg (by rw[hteam];decide),if_pos hberth]
  go_enter Try.func23,Try.ntmps23
  go_upto_region 5 with fail
  clear hteam hberth;go_wp2_with fail
  refine(jE ⟨{data:=#[122,111,110,101]},[3],false,[{data:=#[122]}]⟩ ({data:=#[122]}) #[.int .i64 3] rfl w (by decide) (by decide) rfl Pl.mZ).mono ?_;rintro e w1 ⟨a0,b0,c0,m0,d0,F0,rfl,r,nd,lo,hb⟩;have A1:=uh (A0.out.push r nd lo hb);clear r nd lo hb A0;go_wp2_with fail
  refine(jE ⟨{data:=#[114,111,111,109]},[1],false,[{data:=#[49,48,48]}]⟩ ({data:=#[49,48,48]}) #[.int .i64 1] rfl w1 (by decide) (by decide) rfl Pl.nY).mono ?_;rintro e w2 ⟨a1,b1,c1,m1,d1,F1,rfl,r,nd,lo,hb⟩;have A2:=uh (A1.out.push r nd lo hb);clear r nd lo hb A1;go_wp2_with fail
  refine(jE ⟨{data:=#[104,111,108,100]},[1],false,[{data:=#[49,48,48]}]⟩ ({data:=#[49,48,48]}) #[.int .i64 1] rfl w2 (by decide) (by decide) rfl Pl.nE).mono ?_;rintro e w3 ⟨a2,b2,c2,m2,d2,F2,rfl,r,nd,lo,hb⟩;have A3:=uh (A2.out.push r nd lo hb);clear r nd lo hb A2;go_wp2_with fail
  refine(Eo ⟨{data:=#[109,97,114,107]},[3],true,[]⟩ #[.int .i64 3] rfl w3 (by decide) rfl rfl).mono ?_;rintro e w4 ⟨a3,b3,c3,m3,d3,F3,rfl,r,nd,lo,hb⟩;have A4:=uh (A3.out.push r nd lo hb);clear r nd lo hb A3;have HD:=uh (A4.out.done #[.string ({data:=#[122,111,110,101]}),.slice a0 1 b0,.bool false,.slice c0 m0 d0,.string ({data:=#[114,111,111,109]}),.slice a1 1 b1,.bool false,.slice c1 m1 d1,.string ({data:=#[104,111,108,100]}),.slice a2 1 b2,.bool false,.slice c2 m2 d2,.string ({data:=#[109,97,114,107]}),.slice a3 1 b3,.bool true,.slice c3 m3 d3] rfl (by decide));go_wp2_with (refine wpList_buildSlice rfl 33 40 4 _ rfl #[.string ({data:=#[122,111,110,101]}),.slice a0 1 b0,.bool false,.slice c0 m0 d0,.string ({data:=#[114,111,111,109]}),.slice a1 1 b1,.bool false,.slice c1 m1 d1,.string ({data:=#[104,111,108,100]}),.slice a2 1 b2,.bool false,.slice c2 m2 d2,.string ({data:=#[109,97,114,107]}),.slice a3 1 b3,.bool true,.slice c3 m3 d3] i0 _ Try.eh eT ee (by rw[gi];decide) (by rw[gi];decide) (by rw[gi];kernel_rfl) ?_)
  go_ret;rw[HR.out];exact HD.out
 cases hservice:(s.toList==[115,101,114,118,105,99,101])
 rotate_left
 ·have HR:Hid (Pl.aj s=Pl.fM):=by show _=_;unfold Pl.aj;rw[if_neg (by rw[hteam];decide),if_neg (by rw[hberth];decide),if_pos hservice]
  go_enter Try.func23,Try.ntmps23
  go_upto_region 7 with fail
  clear hteam hberth hservice;go_wp2_with fail
  refine(jE ⟨{data:=#[116,101,97,109]},[3],false,[{data:=#[99,111,114,101]}]⟩ ({data:=#[99,111,114,101]}) #[.int .i64 3] rfl w (by decide) (by decide) rfl Pl.lP).mono ?_;rintro e w1 ⟨a0,b0,c0,m0,d0,F0,rfl,r,nd,lo,hb⟩;have A1:=uh (A0.out.push r nd lo hb);clear r nd lo hb A0;go_wp2_with fail
  refine(jE ⟨{data:=#[105,109,97,103,101]},[1],false,[{data:=#[49]}]⟩ ({data:=#[49]}) #[.int .i64 1] rfl w1 (by decide) (by decide) rfl Pl.ky).mono ?_;rintro e w2 ⟨a1,b1,c1,m1,d1,F1,rfl,r,nd,lo,hb⟩;have A2:=uh (A1.out.push r nd lo hb);clear r nd lo hb A1;go_wp2_with fail
  refine(jE ⟨{data:=#[119,97,110,116]},[1],false,[{data:=#[49]}]⟩ ({data:=#[49]}) #[.int .i64 1] rfl w2 (by decide) (by decide) rfl Pl.lM).mono ?_;rintro e w3 ⟨a2,b2,c2,m2,d2,F2,rfl,r,nd,lo,hb⟩;have A3:=uh (A2.out.push r nd lo hb);clear r nd lo hb A2;go_wp2_with fail
  refine(jE ⟨{data:=#[100,111,119,110]},[1],false,[{data:=#[49]}]⟩ ({data:=#[49]}) #[.int .i64 1] rfl w3 (by decide) (by decide) rfl Pl.lC).mono ?_;rintro e w4 ⟨a3,b3,c3,m3,d3,F3,rfl,r,nd,lo,hb⟩;have A4:=uh (A3.out.push r nd lo hb);clear r nd lo hb A3;go_wp2_with fail
  refine(jE ⟨{data:=#[111,118,101,114]},[1],false,[{data:=#[48]}]⟩ ({data:=#[48]}) #[.int .i64 1] rfl w4 (by decide) (by decide) rfl Pl.lI).mono ?_;rintro e w5 ⟨a4,b4,c4,m4,d4,F4,rfl,r,nd,lo,hb⟩;have A5:=uh (A4.out.push r nd lo hb);clear r nd lo hb A4;go_wp2_with fail
  refine(jE ⟨{data:=#[110,101,101,100,115]},[1,1],false,[{data:=#[49]},{data:=#[49]}]⟩ ({data:=#[49,32,49]}) #[.int .i64 1,.int .i64 1] rfl w5 (by decide) (by decide) rfl Pl.kN).mono ?_;rintro e w6 ⟨a5,b5,c5,m5,d5,F5,rfl,r,nd,lo,hb⟩;have A6:=uh (A5.out.push r nd lo hb);clear r nd lo hb A5;go_wp2_with fail
  refine(jE ⟨{data:=#[119,104,101,114,101]},[4],false,[{data:=#[]}]⟩ ({data:=#[]}) #[.int .i64 4] rfl w6 (by decide) (by decide) rfl Pl.ks).mono ?_;rintro e w7 ⟨a6,b6,c6,m6,d6,F6,rfl,r,nd,lo,hb⟩;have A7:=uh (A6.out.push r nd lo hb);clear r nd lo hb A6;go_wp2_with fail
  refine(Eo ⟨{data:=#[108,105,107,101]},[4,2],true,[]⟩ #[.int .i64 4,.int .i64 2] rfl w7 (by decide) rfl rfl).mono ?_;rintro e w8 ⟨a7,b7,c7,m7,d7,F7,rfl,r,nd,lo,hb⟩;have A8:=uh (A7.out.push r nd lo hb);clear r nd lo hb A7;go_wp2_with fail
  refine(jE ⟨{data:=#[97,112,97,114,116]},[6],false,[{data:=#[110,111,110,101]}]⟩ ({data:=#[110,111,110,101]}) #[.int .i64 6] rfl w8 (by decide) (by decide) rfl Pl.kB).mono ?_;rintro e w9 ⟨a8,b8,c8,m8,d8,F8,rfl,r,nd,lo,hb⟩;have A9:=uh (A8.out.push r nd lo hb);clear r nd lo hb A8;go_wp2_with fail
  refine(jE ⟨{data:=#[118,111,108,117,109,101]},[5],false,[{data:=#[110,111]}]⟩ ({data:=#[110,111]}) #[.int .i64 5] rfl w9 (by decide) (by decide) rfl Pl.j7).mono ?_;rintro e lh ⟨a9,b9,c9,m9,d9,F9,rfl,r,nd,lo,hb⟩;have A10:=uh (A9.out.push r nd lo hb);clear r nd lo hb A9;go_wp2_with fail
  refine(jE ⟨{data:=#[102,111,108,108,111,119]},[1,1,1],false,[{data:=#[48]},{data:=#[48]},{data:=#[48]}]⟩ ({data:=#[48,32,48,32,48]}) #[.int .i64 1,.int .i64 1,.int .i64 1] rfl lh (by decide) (by decide) rfl Pl.jX).mono ?_;rintro e tG ⟨a10,b10,c10,m10,d10,F10,rfl,r,nd,lo,hb⟩;have A11:=uh (A10.out.push r nd lo hb);clear r nd lo hb A10;go_wp2_with fail
  refine(jE ⟨{data:=#[112,97,99,101]},[1,1,1],false,[{data:=#[48]},{data:=#[48]},{data:=#[48]}]⟩ ({data:=#[48,32,48,32,48]}) #[.int .i64 1,.int .i64 1,.int .i64 1] rfl tG (by decide) (by decide) rfl Pl.lE).mono ?_;rintro e vO ⟨a11,b11,c11,m11,d11,F11,rfl,r,nd,lo,hb⟩;have A12:=uh (A11.out.push r nd lo hb);clear r nd lo hb A11;have HD:=uh (A12.out.done #[.string ({data:=#[116,101,97,109]}),.slice a0 1 b0,.bool false,.slice c0 m0 d0,.string ({data:=#[105,109,97,103,101]}),.slice a1 1 b1,.bool false,.slice c1 m1 d1,.string ({data:=#[119,97,110,116]}),.slice a2 1 b2,.bool false,.slice c2 m2 d2,.string ({data:=#[100,111,119,110]}),.slice a3 1 b3,.bool false,.slice c3 m3 d3,.string ({data:=#[111,118,101,114]}),.slice a4 1 b4,.bool false,.slice c4 m4 d4,.string ({data:=#[110,101,101,100,115]}),.slice a5 2 b5,.bool false,.slice c5 m5 d5,.string ({data:=#[119,104,101,114,101]}),.slice a6 1 b6,.bool false,.slice c6 m6 d6,.string ({data:=#[108,105,107,101]}),.slice a7 2 b7,.bool true,.slice c7 m7 d7,.string ({data:=#[97,112,97,114,116]}),.slice a8 1 b8,.bool false,.slice c8 m8 d8,.string ({data:=#[118,111,108,117,109,101]}),.slice a9 1 b9,.bool false,.slice c9 m9 d9,.string ({data:=#[102,111,108,108,111,119]}),.slice a10 3 b10,.bool false,.slice c10 m10 d10,.string ({data:=#[112,97,99,101]}),.slice a11 3 b11,.bool false,.slice c11 m11 d11] rfl (by decide));go_wp2_with (refine wpList_buildSlice rfl 33 40 12 _ rfl #[.string ({data:=#[116,101,97,109]}),.slice a0 1 b0,.bool false,.slice c0 m0 d0,.string ({data:=#[105,109,97,103,101]}),.slice a1 1 b1,.bool false,.slice c1 m1 d1,.string ({data:=#[119,97,110,116]}),.slice a2 1 b2,.bool false,.slice c2 m2 d2,.string ({data:=#[100,111,119,110]}),.slice a3 1 b3,.bool false,.slice c3 m3 d3,.string ({data:=#[111,118,101,114]}),.slice a4 1 b4,.bool false,.slice c4 m4 d4,.string ({data:=#[110,101,101,100,115]}),.slice a5 2 b5,.bool false,.slice c5 m5 d5,.string ({data:=#[119,104,101,114,101]}),.slice a6 1 b6,.bool false,.slice c6 m6 d6,.string ({data:=#[108,105,107,101]}),.slice a7 2 b7,.bool true,.slice c7 m7 d7,.string ({data:=#[97,112,97,114,116]}),.slice a8 1 b8,.bool false,.slice c8 m8 d8,.string ({data:=#[118,111,108,117,109,101]}),.slice a9 1 b9,.bool false,.slice c9 m9 d9,.string ({data:=#[102,111,108,108,111,119]}),.slice a10 3 b10,.bool false,.slice c10 m10 d10,.string ({data:=#[112,97,99,101]}),.slice a11 3 b11,.bool false,.slice c11 m11 d11] i0 _ Try.eh eT ee (by rw[gi];decide) (by rw[gi];decide) (by rw[gi];kernel_rfl) ?_)
  go_ret;rw[HR.out];exact HD.out
 have HR:Hid (Pl.aj s=[]):=by show _=_;unfold Pl.aj;rw[if_neg (by rw[hteam];decide),if_neg (by rw[hberth];decide),if_neg (by rw[hservice];decide)]
 go_enter Try.func23,Try.ntmps23
 go_wp2;go_ret;rw[HR.out];exact A0.out.done #[] rfl (by decide)
end Go.Proofs.Ytmgibmmpopoboaa
