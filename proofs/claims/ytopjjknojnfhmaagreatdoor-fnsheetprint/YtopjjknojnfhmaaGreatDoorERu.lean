import Derived.BigFrame
import Derived.Great.BuildSlice
import Derived.Test.YtopjjknojnfhmaaGreatDoorECs
import Derived.Test.YtopjjknojnfhmaaGreatDoorETx
import Derived.Test.YtopjjknojnfhmaaGreatDoorEPu
namespace Go.Proofs.YtopjjknojnfhmaaGreatDoor
open Go.RowKit Go.Deep
namespace RY
def chB (l:List Oper):List Nat→Bool
 |[]=>true
 |[_]=>true
 |x::y::r=>waits l y x&&(match l[x]? with
  |some o=>o.dst.isSome
  |none=>false)&& !(y::r).contains x&&chB l (y::r)
theorem DV {l:List Oper}:∀ {ch:List Nat},chB l ch=true→∀ k x y,ch[k]? =some x→ch[k+1]? =some y→waits l y x=true∧∃ o d,l[x]? =some o∧o.dst=some d
 |[],_,k,x,y,h,_=>by simp at h
 |[a],_,k,x,y,_,h=>by simp at h
 |a::b::r,hc,k,x,y,h1,h2=>by
  rw[chB,Bool.and_eq_true,Bool.and_eq_true,Bool.and_eq_true]at hc;obtain⟨⟨⟨hw,hd⟩,_⟩,hr⟩:=hc;cases k with
  |zero=>
   simp at h1 h2;subst h1;subst h2;refine⟨hw, ?_⟩;cases ho:l[a]? with
   |none=>rw[ho]at hd;cases hd
   |some o=>
    rw[ho]at hd;obtain⟨d,MT⟩:=Option.isSome_iff_exists.1 hd;exact⟨o,d,rfl,MT⟩
  |succ k=>exact DV hr k x y (by simpa using h1) (by simpa using h2)
theorem CM {l:List Oper}:∀ {ch:List Nat},chB l ch=true→ch.Nodup
 |[],_=>List.nodup_nil
 |[a],_=>by simp
 |a::b::r,hc=>by
  rw[chB,Bool.and_eq_true,Bool.and_eq_true,Bool.and_eq_true]at hc;rw[List.nodup_cons];refine⟨fun e=> ?_,CM hc.2⟩;have:=hc.1.2;simp only[Bool.not_eq_true',List.contains_eq_mem,decide_eq_false_iff_not]at this;exact this e
structure TCh (ch:List Nat) (Ws:Nat→World) (up:Nat→Bool) (j:Nat) (X:World):Prop where
 le:j≤ch.length
 yes:∀ k x,ch[k]? =some x→k<j→up x=true
 no:∀ k x,ch[k]? =some x→j≤k→up x=false
 eq:X=Ws j
def sI (l:List Oper) (c i:Nat):Bool:=(clo l 8 [c]).contains i
theorem GP {l:List Oper} {up:Nat→Bool} (eN:∀ (j:Nat) (o':Oper) (e:_),l[j]? =some o'→e∈o'.after→Region.binds .any e=true→up j=true→up e.on=true) (f:Nat) {S:List Nat} (hS:∀ x∈S,up x=true) {i:Nat} (h:(clo l f S).contains i=true):up i=true:=
 gm eN f S hS i (List.contains_iff_mem.1 h)
theorem Hb {l:List Oper} {up:Nat→Bool} (eN:∀ (j:Nat) (o':Oper) (e:_),l[j]? =some o'→e∈o'.after→Region.binds .any e=true→up j=true→up e.on=true) {c i:Nat} (h:sI l c i=true) (hu:up c=true):up i=true:=by
 unfold sI at h;generalize 8=f at h;exact GP eN f (fun x hx=>by rw[List.mem_singleton]at hx;rw[hx];exact hu) h
def ws4 (a b c d:World):Nat→World
 |0=>a
 |1=>b
 |2=>c
 |_=>d
theorem AP {P:Program} {id:Nat} {Q:Exit→Act→World→Prop} {a0:Act} {w:World} {l:List Oper} (V:Nat→Value→Prop) (ch:List Nat) (Ws:Nat→World) (mx:List Nat) (hm:P.follows .mixedOrders=true)
  (hasc:asc .any l.toArray=true) (hap:di l=true) (dr:dK l a0.tmps.size=true) (hch:chB l ch=true) (MD:((List.range l.length).all fun i=>decide (ch.findIdx (fun c=>sI l c i)≤mx.getD i 0))=true) (h0:Ws 0=w.drew)
  (iH:∀ (i:Nat) (o:Oper),l[i]? =some o→∀ (a:Act),(∀ k,cP l k=true→a.eval (.tmp k)=a0.eval (.tmp k))→
   (∀ (j:Nat) (o':Oper) (k:Nat),l[j]? =some o'→o'.dst=some k→(∃ e∈o.after,e.on=j∧Region.binds .any e=true)→V j (a.eval (.tmp k)))→
   (∀ j,ch[j]? =some i→(∃ u,(execOp a.eval o).run P (Ws j)=.ok (.value u) (Ws (j+1))∧o.dst.isSome=true∧V i u)∨((execOp a.eval o).run P (Ws j)=.ok .skip (Ws (j+1))∧o.dst=none))∧
   (ch.contains i=false→∀ j,j≤mx.getD i 0→∃ u,(execOp a.eval o).run P (Ws j)=.ok (.value u) (Ws j)∧o.dst.isSome=true∧V i u))
  (dt:∀ (vs:Nat→Value),(∀ (i:Nat) (o:Oper) (k:Nat),l[i]? =some o→o.dst=some k→V i (vs k))→Q .normal (aC l a0 vs) (Ws ch.length)) (eN:∀ x∈ch,x<l.length):
  (Code.region id l.toArray true).wp P Q a0 w:=by
 have jl:=CM hch;have inj:∀ {k k' x:Nat},ch[k]? =some x→ch[k']? =some x→k=k':=fun {k k' x} h1 h2=>by
  exact(List.getElem?_inj (List.getElem?_eq_some_iff.1 h1).1 jl).1 (h1.trans h2.symm)
 refine DU V (fun up _ X=>∃ j,TCh ch Ws up j X) hm hasc hap dr (fun _=>⟨0,zN,fun _ _ _ h=>absurd h (Nat.not_lt_zero _),fun _ _ _ _=>rfl,h0.symm⟩) ?_ ?_
 ·rintro up vals i o ho hi Sf a X hk hd ⟨j,hT⟩;obtain⟨h1,h2⟩:=iH i o ho a hk (fun j o' k hj hk e=>by obtain⟨_,q2,q3⟩:=hd j o' k hj hk e;rw[q2];exact q3);have hX:=hT.eq;subst hX;cases hc:ch.contains i
  ·have du:∀ k x,ch[k]? =some x→x≠i:=fun k x hx e=>by
    subst e;have:=List.mem_of_getElem? hx;rw[List.contains_eq_mem,decide_eq_false_iff_not]at hc;exact hc this
   have hj:j≤ch.findIdx (fun c=>sI l c i):=by
    rcases Nat.lt_or_ge (ch.findIdx (fun c=>sI l c i)) j with q|q
    ·exfalso;have bd:ch.findIdx (fun c=>sI l c i)<ch.length:=zL q hT.le;have hw:sI l (ch[ch.findIdx (fun c=>sI l c i)]) i=true:=List.findIdx_getElem (w:=bd) (p:=fun c=>sI l c i);have hu:=hT.yes _ _ (List.getElem?_eq_getElem bd) q;have:=Hb Sf hw hu;rw[hi]at this;cases this
    ·exact q
   have nt:i<l.length:=(List.getElem?_eq_some_iff.1 ho).1;have Jk:=(List.all_eq_true.1 MD) i (List.mem_range.2 nt);rw[decide_eq_true_eq]at Jk;obtain⟨u,hr,ks,hV⟩:=h2 hc j (Nat.le_trans hj Jk);refine Or.inl ⟨u,_,hr,ks,hV,j,hT.le,fun k x hx EO=> ?_,fun k x hx EO=> ?_,rfl⟩
   ·show ((x==i)||up x)=true;rw[hT.yes k x hx EO];simp
   ·show ((x==i)||up x)=false;rw[hT.no k x hx EO,show (x==i)=false from by simpa using du k x hx];rfl
  ·obtain⟨k,hk⟩:∃ k,ch[k]? =some i:=by
    rw[List.contains_eq_mem,decide_eq_true_eq]at hc;exact List.getElem?_of_mem hc
   have hjk:j≤k:=by
    rcases Nat.lt_or_ge k j with q|q
    ·have:=hT.yes k i hk q;rw[hi]at this;cases this
    ·exact q
   have EO:k≤j:=by
    cases k with
    |zero=>exact zN
    |succ k=>
     have tE:k+1<ch.length:=(List.getElem?_eq_some_iff.1 hk).1;have hx:ch[k]? =some ch[k]:=List.getElem?_eq_getElem (by omega);obtain⟨hw,ox,d,hox,hdx⟩:=DV hch k _ _ hx hk;have hu:=(hd _ _ _ hox hdx (aU hw ho)).1;rcases Nat.lt_or_ge k j with q|q
     ·exact q
     ·have:=hT.no k _ hx q;rw[hu]at this;cases this
   have e:k=j:=by omega
   subst e;have st:TCh ch Ws (fun x=>(x==i)||up x) (k+1) (Ws (k+1)):=by
    have tE:k<ch.length:=(List.getElem?_eq_some_iff.1 hk).1;refine⟨tE,fun q x hx hq=> ?_,fun q x hx hq=> ?_,rfl⟩
    ·by_cases e:q=k
     ·subst e;rw[hk]at hx;injection hx with hx;subst hx;simp
     ·show ((x==i)||up x)=true;rw[hT.yes q x hx (by omega)];simp
    ·have du:x≠i:=fun e=>by subst e;have:=inj hx hk;omega
     show ((x==i)||up x)=false;rw[hT.no q x hx (by omega),show (x==i)=false from by simpa using du];rfl
   rcases h1 k hk with⟨u,hr,ks,hV⟩|⟨hr,ks⟩
   ·exact Or.inl ⟨u,_,hr,ks,hV,k+1,st⟩
   ·exact Or.inr ⟨_,hr,ks,k+1,st⟩
 ·rintro up vals vs X bs bg ⟨j,hT⟩;have hj:j=ch.length:=by
   rcases Nat.lt_or_ge j ch.length with q|q
   ·exfalso;have hx:ch[j]? =some ch[j]:=List.getElem?_eq_getElem q;have:=hT.no j _ hx zE;rw[bs _ (eN _ (List.getElem_mem q))]at this;cases this
   ·exact Nat.le_antisymm hT.le q
  have hX:=hT.eq;subst hX;rw[hj];exact dt vs (fun i o k hi hk=>by obtain⟨q1,q2⟩:=bg i o k hi hk;rw[q1];exact q2)
end RY
abbrev aF:List Sh:=[.s,.row 3 [.i],.b,.row 9 [.s]]
theorem eT {w:World} {tt:Bool} {F:List Nat} {a0:ByteArray} {n1:Nat} {e1:List Dt} {a2:Bool} {n3:Nat} {e3:List Dt} {cs:List Value} (h:Rep w tt aF F [.s a0,.row n1 e1,.b a2,.row n3 e3] cs):∃ F1 v1 F3 v3,F=F1++(F3++[])∧cs=[.string a0,v1,.bool a2,v3]∧Rep w tt [.row 3 [.i]] F1 [.row n1 e1] [v1]∧Rep w tt [.row 9 [.s]] F3 [.row n3 e3] [v3]:=by
 obtain⟨x0,rfl,h1⟩:=h.c_s;obtain⟨F1,G1,v1,x1,rfl,rfl,t1,h2⟩:=h1.c_r;obtain⟨x2,rfl,h3⟩:=h2.c_b;obtain⟨F3,G3,v3,x3,rfl,rfl,t3,h4⟩:=h3.c_r;obtain⟨rfl,rfl⟩:=h4.c_n;exact⟨F1,v1,F3,v3,rfl,rfl,t1,t3⟩
theorem sx {w:World} {a0:ByteArray} {n1:Nat} {e1:List Dt} {a2:Bool} {n3:Nat} {e3:List Dt} {cs:List Value} (h:Raw w aF [.s a0,.row n1 e1,.b a2,.row n3 e3] cs):∃ v1 v3,cs=[.string a0,v1,.bool a2,v3]∧Raw w [.row 3 [.i]] [.row n1 e1] [v1]∧Raw w [.row 9 [.s]] [.row n3 e3] [v3]:=by
 obtain⟨x0,rfl,h1⟩:=h.c_s;obtain⟨v1,x1,rfl,t1,h2⟩:=h1.c_r;obtain⟨x2,rfl,h3⟩:=h2.c_b;obtain⟨v3,x3,rfl,t3,h4⟩:=h3.c_r;obtain rfl:=h4.c_n;exact⟨v1,v3,rfl,t1,t3⟩
theorem eG {w:World} {tt:Bool} (a0:ByteArray) {F1:List Nat} {n1:Nat} {e1:List Dt} {v1:Value} (h1:Rep w tt [.row 3 [.i]] F1 [.row n1 e1] [v1]) (a2:Bool) {F3:List Nat} {n3:Nat} {e3:List Dt} {v3:Value} (h3:Rep w tt [.row 9 [.s]] F3 [.row n3 e3] [v3]):Rep w tt aF (F1++(F3++[])) [.s a0,.row n1 e1,.b a2,.row n3 e3] [.string a0,v1,.bool a2,v3]:=
 (.s a0 (h1.app (.b a2 (h3.app .nil))))
set_option maxHeartbeats 40000000
set_option maxRecDepth 8000
theorem Tryz.oT:Tryz.prog.underlying 94=some (.slice 3):=by kernel_rfl
theorem Tryz.bP:(Tryz.prog.info? 3).map (fun i=>(i.zero,i.size,i.bytes))=some (some (.int .i64 0),1,8):=by kernel_rfl
theorem D1 (s:ByteArray) (f k:Nat) (h1:f≤k) (h2:k≤s.size) (w:World):(Instr.slice 9 (.string s) (some (.int .i64 (f:Int))) (some (.int .i64 (k:Int))) none).run Tryz.prog w=.ok (.string (s.extract f k)) w:=by
 rw[run_slice_string_if w 9 s .i64 .i64 (f:Int) (k:Int) (by kernel_rfl),if_pos ⟨by omega,by omega⟩,if_pos ⟨by omega,by omega⟩];simp only[Int.toNat_natCast]
structure OR (w:World) (p:Nat) (key:ByteArray) (av:Value) (FA:List Nat) (n:Nat) (es:List Dt) (wr:World) (v:Value) (ts:List ByteArray):Prop where
 bel:Bel w wr
 res:al wr w.heap.size 96 [.string {data:=#[]},.slice none 0 0,.bool false,.slice none 0 0]
 box:al wr p 96 [.string key,av,.bool false,v]
 arg:Rep wr false [.row 3 [.i]] FA [.row n es] [av]
 row:TxR wr (p+1) v ts
theorem OR.put {w wr wb w1:World} {p:Nat} {key:ByteArray} {av v v':Value} {FA:List Nat} {n:Nat} {es:List Dt} {ts ts':List ByteArray} (h:OR w p key av FA n es wr v ts) (Og:w.heap.size<p) (hFA:∀ b∈FA,b<p) (hb:Bel wr wb) (hg:wb.grownBy w1 v.ownBlock) (hx:TxR w1 (p+1) v' ts'):OR w p key av FA n es (w1.setCell ⟨p,3,none⟩ v') v' ts':=by
 have hn:∀ q,q<p+1→v.ownBlock≠some q:=fun q hq e=>by have:=(bI h.row e).1;omega
 have hm:Marks (fun b=>b=p) w1 (w1.setCell ⟨p,3,none⟩ v'):=Marks.sc (S:=fun b=>b=p) w1 rfl 3 v';refine⟨?_,((h.res.later hb).grow hg (hn _ (by omega))).other (by omega) _ _,((h.box.later hb).grow hg (hn _ (by omega))).set 3 v' (by simp),((h.arg.later hb).grown hg fun b hb=>hn b (by have:=hFA b hb;omega)).bo hm fun b hb e=>by have:=hFA b hb;omega,dE hx hm fun b hb e=>by omega⟩;exact((h.row.later hb).below (lo:=p+1) (ah h.bel hb) hg (by omega)).setCell (p:=⟨p,3,none⟩) (by show w.heap.size≤p;omega) _
theorem NH {w wr we:World} {p:Nat} {key:ByteArray} {av v:Value} {FA:List Nat} {n:Nat} {es:List Dt} {ts:List ByteArray} (h:OR w p key av FA n es wr v ts) (Og:w.heap.size<p) (nd:FA.Nodup) (hFA:∀ b∈FA,w.heap.size<b∧b<p) (hm:Marks (fun b=>b=w.heap.size) wr we) (hb:Bel w we):
  Ans aF [.s key,.row n es,.b false,.row ts.length (txD ts)] w (.returned (.agg #[.string key,av,.bool false,v])) we:=by
 obtain⟨F,h1,h2,h3⟩:=TxR.done (show TxR we (p+1) v ts from dE h.row hm fun b hb e=>by omega);refine⟨[.string key,av,.bool false,v],FA++(F++[]),rfl,eG key (h.arg.bo hm fun b hb e=>by have:=hFA b hb;omega) false h1, ?_,fun b gb=> ?_,hb⟩
 ·rw[List.append_nil];exact yX nd h2 (fun b hb=>(hFA b hb).2) (fun b hb=>by have:=h3 b hb;omega)
 ·rw[List.append_nil]at gb;rcases List.mem_append.1 gb with q|q
  ·have:=hFA b q;omega
  ·have:=h3 b q;omega
def VOr (wz p f k g cap:Nat) (s X:ByteArray) (va:Value) (m:Nat):Nat→Value→Prop
 |0,u|8,u=>u=.pointer (some ⟨p,3,none⟩)
 |1,u=>u=va
 |2,u=>u=.string s
 |3,u=>u=.int .i64 (f:Int)
 |4,u=>u=.int .i64 (k:Int)
 |5,u=>u=.string X
 |6,u=>u=.slice (some ⟨wz,0,none⟩) 1 1
 |7,u=>u=.slice (some ⟨g,0,none⟩) (m+1) cap
 |_,_=>True
theorem G5 (key s:ByteArray) (va:Option Addr) (n vc:Nat) (es:List Dt) (w:World) (hs:s.size≤1048576) (hv:Raw w [.row 3 [.i]] [.row n es] [.slice va n vc]) (hn:n≤4194304):
  Calls Tryz.prog 50 #[.string key,.string s,.slice va n vc] w (Ans aF [.s key,.row n es,.b false,.row (Pl.fj s).length (txD (Pl.fj s))] w):=by
 obtain⟨wa,aZ⟩:∃ wa,wa=w.alloc (.cells #[.string {data:=#[]},.slice none 0 0,.bool false,.slice none 0 0] 96):=⟨_,rfl⟩
 have g8:Bel w wa:=by rw[aZ];exact ae zR _
 have Ca:wa.heap.size=w.heap.size+1:=by rw[aZ];simp
 have qQ:Hid (al wa w.heap.size 96 [.string {data:=#[]},.slice none 0 0,.bool false,.slice none 0 0]):=by show al _ _ _ _;rw[aZ];exact al.new w [.string {data:=#[]},.slice none 0 0,.bool false,.slice none 0 0] 96 _ rfl
 obtain⟨wb,jM⟩:∃ wb,wb=wa.alloc (.cells #[] 3):=⟨_,rfl⟩
 have ot:Bel wa wb:=by rw[jM];exact ae zR _
 obtain⟨v',W1,xs,dM,hg,bJ⟩:=pQ (P:=Tryz.prog) wa.heap.size 94 94 3 3 1 8 _ Tryz.oT Tryz.bP rfl (by decide) (by decide) [.i] rfl (by simp[cZ]) wb (.slice (some ⟨wa.heap.size,0,none⟩) 0 0) (Or.inr ⟨wa.heap.size,rfl,zE,by rw[jM];exact heap_alloc_new _ _⟩) ot.size n es (.slice va n vc) ((hv.later g8).later ot) hn;rw[jM]at dM;obtain⟨wx,wc,Mk⟩:=hg.shape;subst Mk;obtain⟨FA,rA,ndA,frA⟩:=hg.done;obtain⟨p,hp⟩:∃ p,p=W1.heap.size:=⟨_,rfl⟩
 obtain⟨wd,Qv⟩:∃ wd,wd=W1.alloc (.cells #[.string key,.slice wx n wc,.bool false,.slice none 0 0] 96):=⟨_,rfl⟩
 have H0:Hid (OR w p key (.slice wx n wc) FA n es wd (.slice none 0 0) []):=by
  have eD:Bel W1 wd:=by rw[Qv];exact ae zR _
  show OR _ _ _ _ _ _ _ _ _ _;exact⟨ah (ah (ah g8 ot) bJ) eD,((qQ.out.later ot).later bJ).later eD,by rw[Qv,hp];exact al.new W1 [.string key,.slice wx n wc,.bool false,.slice none 0 0] 96 _ rfl,rA.later eD,TxR.nil _ _⟩
 have FM:Hid (FA.Nodup∧∀ b∈FA,w.heap.size<b∧b<p):=⟨ndA,fun b hb=>⟨by have:=frA b hb;omega,by rw[hp];exact rA.lt b hb⟩⟩
 have HWP:Hid (w.heap.size<p):=by show _<_;rw[hp];have:=g8.size;have:=ot.size;have:=bJ.size;omega
 clear hg rA ndA frA qQ hv jM ot bJ Ca g8;go_enter Tryz.func50,Tryz.ntmps50
 go_upto_region 1 with fail
 rw[← aZ];clear aZ;go_upto_region 2 with(at_builtin;refine Go.Lib.wpList_append_run _ rfl _ _ 94 94 rfl _ _ rfl rfl _ W1 dM ?_)
 rw[← Qv,← hp];clear Qv hp dM;go_wp2;go_loopw [8,9] (fun vf vi wr=>∃ (f k:Nat) (v:Value) (ts:List ByteArray),vf=.int .i64 f∧vi=.int .i64 k∧OR w p key (.slice wx n wc) FA n es wr v ts∧ts.length≤k∧k≤s.size+1∧f≤k∧((k≤s.size∧Pl.fj s=ts++Pl.kk s f k)∨(k=s.size+1∧Pl.fj s=ts))) (fun _ vi _=>s.size+1 - (intOf vi).toNat)
 case atStart=>exact⟨0,0,_,[],rfl,rfl,H0.out,zE,by omega,zE,Or.inl ⟨zN,by rw[Pl.xz];rfl⟩⟩
 case round=>
  obtain⟨f,k,v,ts,rfl,rfl,hO,qK,Fy,hfk,O3⟩:=hrel;have HO:=uh hO;have L0:=uh O3;have Cb:=uh qK;obtain⟨sa,sc,OS⟩:=hO.row.shape;subst OS;clear hO O3 qK H0;by_cases hle:k≤s.size
  rotate_left
  ·have HSE:Hid (Pl.fj s=ts):=by rcases L0.out with h|h;exact absurd h.1 hle;exact h.2
   have p5:=uh HO.out.bel;go_upto_region 9 with fail
   have mN:=HO.out.box.at_;have gD:=HO.out.box.own.lt;have oG:=HO.out.res.own.lt;have cp:wr.there w.heap.size 0 (#[.string key,.slice wx n wc,.bool false,.slice sa ts.length sc]:Array Value).size:=aR HO.out.res.own _ _ (by simp);obtain⟨we,bM⟩:∃ we,we=wr.setCells w.heap.size 0 [.string key,.slice wx n wc,.bool false,.slice sa ts.length sc]:=⟨_,rfl⟩
   have fT:we.rangeAt w.heap.size 0 [.string key,.slice wx n wc,.bool false,.slice sa ts.length sc]:=by rw[bM];exact World.rangeAt_setCells_same _ _ _ _ cp
   have qn:Hid (Marks (fun b=>b=w.heap.size) wr we):=by show Marks _ _ _;rw[bM];exact aM (S:=fun b=>b=w.heap.size) rfl _ _ _
   have kq:Hid (Bel w we):=by show Below _ _ _;rw[bM];exact da zE _ _ _ p5.out
   go_wp2_with (first|(refine wpList_load_mid rfl 96 _ rfl p 0 rfl [.string key,.slice wx n wc,.bool false,.slice sa ts.length sc] _ mN Tryz.underlying96 rfl (by kernel_rfl) ?_)|(refine wpList_store_mid rfl 96 _ _ rfl w.heap.size 0 #[.string key,.slice wx n wc,.bool false,.slice sa ts.length sc] rfl rfl cp (by kernel_rfl) (by simp[Value.oneCell']) ?_))
   first|rw[← bM]|(simp only[List.toList_toArray];rw[← bM])
   try simp only[Act.put]
   refine bodyPost_ret (v:=.agg #[.string key,.slice wx n wc,.bool false,.slice sa ts.length sc]) (by simp[results,Tryz.results50,asAddr,run_loadVar_mid (P:=Tryz.prog) _ _ _ 96 [.string key,.slice wx n wc,.bool false,.slice sa ts.length sc] _ fT Tryz.underlying96 rfl (by kernel_rfl)]) rfl ?_;rw[HSE.out];exact NH HO.out HWP.out FM.out.1 FM.out.2 qn.out kq.out
  have MY:Hid (Pl.fj s=ts++Pl.kk s f k):=by
   rcases L0.out with h|h
   ·exact h.2
   ·exact absurd h.1 (by omega)
  clear L0;have hcut:(k=s.size)∨(∃ h:k<s.size,s[k].toNat=32)∨(∃ h:k<s.size,s[k].toNat≠32):=by
   by_cases e:k=s.size
   ·exact Or.inl e
   ·by_cases e2:s[k].toNat=32
    ·exact Or.inr (Or.inl ⟨by omega,e2⟩)
    ·exact Or.inr (Or.inr ⟨by omega,e2⟩)
  have qx:Hid (∀ w,(Instr.slice 9 (.string s) (some (.int .i64 (f:Int))) (some (.int .i64 (k:Int))) none).run Tryz.prog w=.ok (.string (s.extract f k)) w):=fun w=>D1 s f k hfk hle w;obtain⟨X,hX⟩:∃ X,X=s.extract f k:=⟨_,rfl⟩
  rw[← hX]at qx;have oE:IntKind.i64.wrap ((k:Int)+1)=(k:Int)+1:=IntWalk.i64_in _ ⟨by omega,by omega⟩;rcases hcut with he|⟨bd,hc⟩|⟨bd,hc⟩
  rotate_right
  ·have tF:Hid (Pl.fj s=ts++Pl.kk s f (k+1)):=by show _=_;rw[MY.out,Pl.Gd s f k hfk bd hc]
   have d1:((k:Int)==(s.size:Int))=false:=by simp;omega
   have d2:((s[k].toNat:Int)==32)=false:=by simp;omega
   clear hc;go_wp2;go_roundw
   case rel=>exact⟨f,k+1,_,ts,rfl,by go_num,HO.out,by have:=Cb.out;omega,by omega,by omega,Or.inl ⟨by omega,tF.out⟩⟩
   case measure=>simp[intOf];omega
  all_goals
   have tF:Hid (((k+1≤s.size∧Pl.fj s=(ts++[X])++Pl.kk s (k+1) (k+1))∨(k+1=s.size+1∧Pl.fj s=ts++[X]))):=by
    first
     |(refine Or.inr ⟨by omega, ?_⟩;rw[MY.out,hX];subst he;rw[Pl.Dh])
     |(refine Or.inl ⟨by omega, ?_⟩;rw[MY.out,Pl.Cu s f k bd hc,hX];simp)
   first
    |have d1:((k:Int)==(s.size:Int))=true:=by simp;omega
    |(have d1:((k:Int)==(s.size:Int))=false:=by simp;omega
      have d2:((s[k].toNat:Int)==32)=true:=by simp;omega)
   have Lt:Bel wr wr.drew:=Below.drew zR;obtain⟨Wb,PX⟩:∃ Wb,Wb=wr.drew.alloc (.cells #[.string X] 9):=⟨_,rfl⟩
   have MA:Bel wr Wb:=by rw[PX];exact ae Lt _
   obtain⟨g,cap,W1',dM,ed,fw⟩:=xP (HO.out.row.later MA) 44 wr.heap.size 1 1 [X] rfl (by rw[PX];exact World.news_of_block (cs:=#[.string X]) (heap_alloc_new wr.drew _)) (by decide) (by have:=Cb.out;omega) (by have:=HO.out.box.own.lt;have:=MA.size;omega);have c0:=(HO.out.box.later Lt).get 3 _ rfl;have c0b:=(HO.out.box.later MA).get 3 _ rfl;have su:=uh (HO.out.put HWP.out (fun b hb=>(FM.out.2 b hb).2) MA fw ed);have jn:(Value.slice sa ts.length sc).ownBlock≠some p:=fun e=>by have:=(bI HO.out.row e).1;omega
   have x0:=((HO.out.box.later MA).grow fw jn).get 3 _ rfl;have xf:=((HO.out.box.later MA).grow fw jn).own.frozen 3;clear ed fw jn MA Lt;go_upto_region 7 with fail
   refine RY.AP (VOr wr.heap.size p f k g cap s X (.slice sa ts.length sc) ts.length) [6,7,9] (RY.ws4 wr.drew Wb W1' (W1'.setCell ⟨p,3,none⟩ (.slice (some ⟨g,0,none⟩) (ts.length+1) cap))) [1,1,0,0,0,0,0,1,2,2] (by kernel_rfl) (by kernel_rfl) (by kernel_rfl) (by kernel_rfl) (by kernel_rfl) (by kernel_rfl) rfl ?_ ?_ (by simp)
   ·intro i o ho a hk hd;match i,ho with
    |0,rfl|8,rfl=>
     have s7:a.eval (.tmp 7)=.pointer (some ⟨p,0,none⟩):=(hk 7 rfl).trans rfl;have t7:a.tmps[7]?.getD undef=.pointer (some ⟨p,0,none⟩):=(RY.af a 7).trans s7;refine⟨fun j hj=>absurd (List.mem_of_getElem? hj) (by decide),fun _ j hj=> ?_⟩;exact⟨.pointer (some ⟨p,3,none⟩),by simp[execOp,go_sem,t7],rfl,rfl⟩
    |1,rfl=>
     have sr:a.eval (.tmp 31)=.pointer (some ⟨p,3,none⟩):=hd 0 _ 31 rfl rfl ⟨⟨0,.data⟩,by simp,rfl,rfl⟩;have t31:a.tmps[31]?.getD undef=.pointer (some ⟨p,3,none⟩):=(RY.af a 31).trans sr;refine⟨fun j hj=>absurd (List.mem_of_getElem? hj) (by decide),fun _ j hj=> ?_⟩;replace hj:j≤1:=hj
     match j,hj with
     |0,_=>exact⟨.slice sa ts.length sc,by simp[RY.ws4,execOp,go_sem,t31,c0],rfl,rfl⟩
     |1,_=>exact⟨.slice sa ts.length sc,by simp[RY.ws4,execOp,go_sem,t31,c0b],rfl,rfl⟩
     |n+2,hj=>exact absurd hj (by omega)
    |2,rfl=>
     have s1:a.eval (.tmp 1)=.string s:=(hk 1 rfl).trans rfl;have t1:a.tmps[1]?.getD undef=.string s:=(RY.af a 1).trans s1;refine⟨fun j hj=>absurd (List.mem_of_getElem? hj) (by decide),fun _ j hj=> ?_⟩;exact⟨.string s,by simp[execOp,go_sem,t1],rfl,rfl⟩
    |3,rfl=>
     have s8:a.eval (.tmp 8)=.int .i64 (f:Int):=(hk 8 rfl).trans rfl;have t8:a.tmps[8]?.getD undef=.int .i64 (f:Int):=(RY.af a 8).trans s8;refine⟨fun j hj=>absurd (List.mem_of_getElem? hj) (by decide),fun _ j hj=> ?_⟩;exact⟨.int .i64 (f:Int),by simp[execOp,go_sem,t8],rfl,rfl⟩
    |4,rfl=>
     have s9:a.eval (.tmp 9)=.int .i64 (k:Int):=(hk 9 rfl).trans rfl;have t9:a.tmps[9]?.getD undef=.int .i64 (k:Int):=(RY.af a 9).trans s9;refine⟨fun j hj=>absurd (List.mem_of_getElem? hj) (by decide),fun _ j hj=> ?_⟩;exact⟨.int .i64 (k:Int),by simp[execOp,go_sem,t9],rfl,rfl⟩
    |5,rfl=>
     have qM:a.eval (.tmp 33)=.string s:=hd 2 _ 33 rfl rfl ⟨⟨2,.data⟩,by simp,rfl,rfl⟩;have t33:a.tmps[33]?.getD undef=.string s:=(RY.af a 33).trans qM;have qX:a.eval (.tmp 34)=.int .i64 (f:Int):=hd 3 _ 34 rfl rfl ⟨⟨3,.data⟩,by simp,rfl,rfl⟩;have t34:a.tmps[34]?.getD undef=.int .i64 (f:Int):=(RY.af a 34).trans qX;have lN:a.eval (.tmp 35)=.int .i64 (k:Int):=hd 4 _ 35 rfl rfl ⟨⟨4,.data⟩,by simp,rfl,rfl⟩;have t35:a.tmps[35]?.getD undef=.int .i64 (k:Int):=(RY.af a 35).trans lN;refine⟨fun j hj=>absurd (List.mem_of_getElem? hj) (by decide),fun _ j hj=> ?_⟩;replace hj:j≤0:=hj
     match j,hj with
     |0,_=>exact⟨.string X,by simp[RY.ws4,execOp,go_sem,t33,t34,t35,qx.out],rfl,rfl⟩
     |n+1,hj=>exact absurd hj (by omega)
    |6,rfl=>
     have lI:a.eval (.tmp 36)=.string X:=hd 5 _ 36 rfl rfl ⟨⟨5,.data⟩,by simp,rfl,rfl⟩;have t36:a.tmps[36]?.getD undef=.string X:=(RY.af a 36).trans lI;refine⟨fun j hj=> ?_,fun h=>absurd h (by decide)⟩;obtain rfl:j=0:=by
      match j,hj with
      |0,hj=>first|rfl|(simp at hj)
      |1,hj=>first|rfl|(simp at hj)
      |2,hj=>first|rfl|(simp at hj)
      |n+3,hj=>simp at hj
     exact Or.inl ⟨.slice (some ⟨wr.heap.size,0,none⟩) 1 1,by rw[PX];simp[RY.ws4,execOp,go_sem,t36],rfl,rfl⟩
    |7,rfl=>
     have qw:a.eval (.tmp 32)=.slice sa ts.length sc:=hd 1 _ 32 rfl rfl ⟨⟨1,.data⟩,by simp,rfl,rfl⟩;have t32:a.tmps[32]?.getD undef=.slice sa ts.length sc:=(RY.af a 32).trans qw;have lR:a.eval (.tmp 37)=.slice (some ⟨wr.heap.size,0,none⟩) 1 1:=hd 6 _ 37 rfl rfl ⟨⟨6,.data⟩,by simp,rfl,rfl⟩;have t37:a.tmps[37]?.getD undef=.slice (some ⟨wr.heap.size,0,none⟩) 1 1:=(RY.af a 37).trans lR;refine⟨fun j hj=> ?_,fun h=>absurd h (by decide)⟩;obtain rfl:j=1:=by
      match j,hj with
      |0,hj=>first|rfl|(simp at hj)
      |1,hj=>first|rfl|(simp at hj)
      |2,hj=>first|rfl|(simp at hj)
      |n+3,hj=>simp at hj
     exact Or.inl ⟨_,aQ (.tmp 32) (.tmp 37) 44 rfl qw lR dM,rfl,rfl⟩
    |9,rfl=>
     have nS:a.eval (.tmp 39)=.pointer (some ⟨p,3,none⟩):=hd 8 _ 39 rfl rfl ⟨⟨8,.data⟩,by simp,rfl,rfl⟩;have t39:a.tmps[39]?.getD undef=.pointer (some ⟨p,3,none⟩):=(RY.af a 39).trans nS;have nu:a.eval (.tmp 38)=.slice (some ⟨g,0,none⟩) (ts.length+1) cap:=hd 7 _ 38 rfl rfl ⟨⟨7,.data⟩,by simp,rfl,rfl⟩;have t38:a.tmps[38]?.getD undef=.slice (some ⟨g,0,none⟩) (ts.length+1) cap:=(RY.af a 38).trans nu;refine⟨fun j hj=> ?_,fun h=>absurd h (by decide)⟩;obtain rfl:j=2:=by
      match j,hj with
      |0,hj=>first|rfl|(simp at hj)
      |1,hj=>first|rfl|(simp at hj)
      |2,hj=>first|rfl|(simp at hj)
      |n+3,hj=>simp at hj
     exact Or.inr ⟨by simp[RY.ws4,execOp,go_sem,t39,t38,x0,xf],rfl⟩
    |n+10,ho=>simp at ho
   intro vs bg;simp only[RY.aC,Act.put,List.setIfInBounds_toArray,List.set_cons_zero,List.set_cons_succ];generalize vs 31=g31,vs 32=g32,vs 33=g33,vs 34=g34,vs 35=g35,vs 36=g36,vs 37=g37,vs 38=g38,vs 39=g39;clear bg;clear c0 c0b x0 xf dM PX;show _;go_wp2;go_roundw
   case rel=>exact⟨k+1,k+1,_,ts++[X],by go_num,by go_num,su.out,by rw[List.length_append];have:=Cb.out;simp;omega,by omega,zE,tF.out⟩
   case measure=>simp[intOf];omega
theorem Dx (key:ByteArray) (va:Option Addr) (n vc:Nat) (es:List Dt) (w:World) (hv:Raw w [.row 3 [.i]] [.row n es] [.slice va n vc]) (hn:n≤4194304):
  Calls Tryz.prog 51 #[.string key,.slice va n vc] w (Ans aF [.s key,.row n es,.b true,.row 0 []] w):=by
 obtain⟨wa,aZ⟩:∃ wa,wa=w.alloc (.cells #[.string {data:=#[]},.slice none 0 0,.bool false,.slice none 0 0] 96):=⟨_,rfl⟩
 have g8:Bel w wa:=by rw[aZ];exact ae zR _
 have Ca:wa.heap.size=w.heap.size+1:=by rw[aZ];simp
 have qQ:Hid (al wa w.heap.size 96 [.string {data:=#[]},.slice none 0 0,.bool false,.slice none 0 0]):=by show al _ _ _ _;rw[aZ];exact al.new w [.string {data:=#[]},.slice none 0 0,.bool false,.slice none 0 0] 96 _ rfl
 obtain⟨wb,jM⟩:∃ wb,wb=wa.alloc (.cells #[] 3):=⟨_,rfl⟩
 have ot:Bel wa wb:=by rw[jM];exact ae zR _
 obtain⟨v',W1,xs,dM,hg,bJ⟩:=pQ (P:=Tryz.prog) wa.heap.size 94 94 3 3 1 8 _ Tryz.oT Tryz.bP rfl (by decide) (by decide) [.i] rfl (by simp[cZ]) wb (.slice (some ⟨wa.heap.size,0,none⟩) 0 0) (Or.inr ⟨wa.heap.size,rfl,zE,by rw[jM];exact heap_alloc_new _ _⟩) ot.size n es (.slice va n vc) ((hv.later g8).later ot) hn;rw[jM]at dM;obtain⟨wx,wc,Mk⟩:=hg.shape;subst Mk;obtain⟨FA,rA,ndA,frA⟩:=hg.done;obtain⟨p,hp⟩:∃ p,p=W1.heap.size:=⟨_,rfl⟩
 have FM:Hid (FA.Nodup∧∀ b∈FA,w.heap.size<b):=⟨ndA,fun b hb=>by have:=frA b hb;omega⟩
 have QA:=uh rA;have p5:Hid (Bel w W1):=ah (ah g8 ot) bJ;replace qQ:=uh ((qQ.out.later ot).later bJ)
 clear hg rA ndA frA hv hp g8 ot bJ Ca jM;have oG:=qQ.out.own.lt;have cp:W1.there w.heap.size 0 (#[.string key,.slice wx n wc,.bool true,.slice none 0 0]:Array Value).size:=aR qQ.out.own _ _ (by simp);obtain⟨we,bM⟩:∃ we,we=W1.setCells w.heap.size 0 [.string key,.slice wx n wc,.bool true,.slice none 0 0]:=⟨_,rfl⟩
 have fT:we.rangeAt w.heap.size 0 [.string key,.slice wx n wc,.bool true,.slice none 0 0]:=by rw[bM];exact World.rangeAt_setCells_same _ _ _ _ cp
 have qn:Hid (Marks (fun b=>b=w.heap.size) W1 we):=by show Marks _ _ _;rw[bM];exact aM (S:=fun b=>b=w.heap.size) rfl _ _ _
 have kq:Hid (Bel w we):=by show Below _ _ _;rw[bM];exact da zE _ _ _ p5.out
 go_enter Tryz.func51,Tryz.ntmps51
 go_upto_region 1 with fail
 rw[← aZ];clear aZ;go_wp2_with (first|(at_builtin;refine Go.Lib.wpList_append_run _ rfl _ _ 94 94 rfl _ _ rfl rfl _ W1 dM ?_)|(refine wpList_store_mid rfl 96 _ _ rfl w.heap.size 0 #[.string key,.slice wx n wc,.bool true,.slice none 0 0] rfl rfl cp (by kernel_rfl) (by simp[Value.oneCell']) ?_))
 first|rw[← bM]|(simp only[List.toList_toArray];rw[← bM])
 try simp only[Act.put]
 refine bodyPost_ret (v:=.agg #[.string key,.slice wx n wc,.bool true,.slice none 0 0]) (by simp[results,Tryz.results51,asAddr,run_loadVar_mid (P:=Tryz.prog) _ _ _ 96 [.string key,.slice wx n wc,.bool true,.slice none 0 0] _ fT Tryz.underlying96 rfl (by kernel_rfl)]) rfl ?_;exact⟨[.string key,.slice wx n wc,.bool true,.slice none 0 0],FA++([]++[]),rfl,eG key (QA.out.bo qn.out fun b hb e=>by have:=FM.out.2 b hb;omega) true (.emp _ _ none rfl .nil),by rw[List.append_nil,List.append_nil];exact FM.out.1,fun b hb=>by rw[List.append_nil,List.append_nil]at hb;have:=FM.out.2 b hb;omega,kq.out⟩
theorem Tryz.eM:Tryz.prog.underlying 62=some (.slice 96):=by kernel_rfl
theorem Tryz.jP:(Tryz.prog.info? 96).map (fun i=>(i.zero,i.size,i.bytes))=some (some (.agg #[.string {data:=#[]},.slice none 0 0,.bool false,.slice none 0 0]),4,72):=by kernel_rfl
def ruD (r:Pl.Ru):List Dt:=[.s r.key,.row r.args.length (r.args.map .i),.b r.many,.row r.dflt.length (txD r.dflt)]
def cQ (l:List Pl.Ru):Dt:=.row l.length (l.flatMap ruD)
theorem y5 (W:World):∀ xs:List Int,Raw W (bf xs.length [.i]) (xs.map .i) (xs.map (.int .i64))
 |[]=> .nil
 |x::xs=>by rw[List.length_cons,bW];exact .i x (y5 W xs)
theorem yU (W:World) (xs:List Int) (cs:Array Value) (iE:cs.toList=xs.map (.int .i64)) (hl:xs.length≤100):Raw (W.alloc (.cells cs 3)) [.row 3 [.i]] [.row xs.length (xs.map .i)] [.slice (some ⟨W.heap.size,0,none⟩) xs.length xs.length]:=by
 refine .row _ _ W.heap.size 0 xs.length xs.length (xs.map (.int .i64)) (xs.map .i) (by simp) (by unfold maxLen;omega) ?_ (y5 _ xs) .nil;intro j v hv;rw[Nat.zero_add];refine(World.cell?_alloc_at _ _ _ _ rfl).trans ?_;rw[← iE]at hv;simpa using hv
def Kc (r:Pl.Ru) (W:World) (e:Ending) (W':World):Prop:=∃ a1 c1 a3 n3 c3 F,e=.returned (.agg #[.string r.key,.slice a1 r.args.length c1,.bool r.many,.slice a3 n3 c3])∧Rep W' false aF F (ruD r) [.string r.key,.slice a1 r.args.length c1,.bool r.many,.slice a3 n3 c3]∧F.Nodup∧(∀ b∈F,W.heap.size≤b)∧Bel W W'
theorem y7 {r:Pl.Ru} {W:World} {o:Obj} {e:Ending} {W':World} (h:Ans aF (ruD r) (W.alloc o) e W'):Kc r W e W':=by
 obtain⟨c,F,he,hr,nd,lo,hb⟩:=h;obtain⟨F1,v1,F3,v3,hF,hc,r1,r3⟩:=eT hr;subst hc;obtain⟨a1,c1,h1⟩:=r1.raw.bm;obtain⟨a3,c3,h3⟩:=r3.raw.bm;subst h1;subst h3;exact⟨a1,c1,a3,_,c3,F,he,hr,nd,fun b gb=>by have:=lo b gb;simp at this;omega,ah (ae zR _) hb⟩
theorem kj (r:Pl.Ru) (s:ByteArray) (cs:Array Value) (iE:cs.toList=r.args.map (.int .i64)) (W:World) (hs:s.size≤1048576) (hn:r.args.length≤100) (hm:r.many=false) (hd:Pl.fj s=r.dflt):
  Calls Tryz.prog 50 #[.string r.key,.string s,.slice (some ⟨W.heap.size,0,none⟩) r.args.length r.args.length] (W.alloc (.cells cs 3)) (Kc r W):=by
 refine(G5 r.key s (some ⟨W.heap.size,0,none⟩) r.args.length r.args.length (r.args.map .i) _ hs (yU W r.args cs iE hn) (by omega)).mono ?_;intro e w' h;refine y7 ?_ (o:=.cells cs 3);unfold ruD;rw[hm,← hd];exact h
theorem IM (r:Pl.Ru) (cs:Array Value) (iE:cs.toList=r.args.map (.int .i64)) (W:World) (hn:r.args.length≤100) (hm:r.many=true) (hd:r.dflt=[]):
  Calls Tryz.prog 51 #[.string r.key,.slice (some ⟨W.heap.size,0,none⟩) r.args.length r.args.length] (W.alloc (.cells cs 3)) (Kc r W):=by
 refine(Dx r.key (some ⟨W.heap.size,0,none⟩) r.args.length r.args.length (r.args.map .i) _ (yU W r.args cs iE hn) (by omega)).mono ?_;intro e w' h;refine y7 ?_ (o:=.cells cs 3);unfold ruD;rw[hm,hd];exact h
structure Acc (w W:World) (l:List Pl.Ru) (G:List Nat) (cs:List Value):Prop where
 rep:Rep W false (bf l.length aF) G (l.flatMap ruD) cs
 nd:G.Nodup
 lo:∀ b∈G,w.heap.size≤b
 bel:Bel w W
theorem Acc.push {w W W':World} {l:List Pl.Ru} {G F:List Nat} {cs c:List Value} {r:Pl.Ru} (h:Acc w W l G cs) (hr:Rep W' false aF F (ruD r) c) (nd:F.Nodup) (lo:∀ b∈F,W.heap.size≤b) (hb:Bel W W'):Acc w W' (l++[r]) (G++F) (cs++c):=by
 refine⟨?_,yX h.nd nd (fun b hb=>h.rep.lt b hb) lo,Gp h.lo fun b hb=>Nat.le_trans h.bel.size (lo b hb),ah h.bel hb⟩;rw[List.length_append,List.length_singleton,iv,List.flatMap_append,List.flatMap_singleton];exact(h.rep.later hb).app hr
theorem Acc.done {w W:World} {l:List Pl.Ru} {G:List Nat} {cs:List Value} (h:Acc w W l G cs) (ca:Array Value) (hca:ca.toList=cs) (hl:l.length≤100):qC [.row 96 aF] (cQ l) w (.returned (.slice (some ⟨W.heap.size,0,none⟩) l.length l.length)) (W.alloc (.cells ca 96)):=by
 have hb:Bel W (W.alloc (.cells ca 96)):=ae zR _;have eN:cs.length=l.length*4:=by rw[h.rep.len,bj];rfl
 refine⟨_,W.heap.size::(G++[]),rfl,.row 96 aF W.heap.size 0 l.length l.length 96 (l.length*4) cs (l.flatMap ruD) G ?_ ?_ ?_ ?_ ?_ (h.rep.later hb) .nil, ?_, ?_,ah h.bel hb⟩
 ·exact aV.alloc W ca 96 _ (by rw[← Array.length_toList,hca,eN])
 ·show 0+l.length*4≤l.length*4;omega
 ·intro h;cases h
 ·exact⟨by unfold maxLen;omega,zE⟩
 ·intro j v hv;rw[Nat.zero_add];refine(World.cell?_alloc_at _ _ _ _ rfl).trans ?_;rw[← hca]at hv;simpa using hv
 ·rw[List.append_nil,List.nodup_cons];exact⟨fun e=>by have:=h.rep.lt _ e;omega,h.nd⟩
 ·intro b gb;rw[List.append_nil]at gb;rcases List.mem_cons.1 gb with rfl|q
  ·exact h.bel.size
  ·exact h.lo b q
theorem Acc.nil (w:World):Acc w w [] [] []:=⟨.nil,List.nodup_nil,by simp,zR⟩
theorem dZ (s:ByteArray) (w:World):
  Calls Tryz.prog 27 #[.string s] w (qC [.row 96 aF] (cQ (Pl.ai s)) w):=by
 obtain⟨i0,gF,ga,dJ,gH⟩:=ji Tryz.jP;have A0:=uh (Acc.nil w);cases hteam:(s.toList==[116,101,97,109])
 rotate_left
 ·have HR:Hid (Pl.ai s=Pl.ju):=by show _=_;unfold Pl.ai;rw[if_pos hteam]
  go_enter Tryz.func27,Tryz.ntmps27
  go_upto_region 3 with fail
  clear hteam;go_wp2_with fail
  refine(kj ⟨{data:=#[99,111,112,105,101,115]},[1],false,[{data:=#[49,48,48]}]⟩ ({data:=#[49,48,48]}) #[.int .i64 1] rfl w (by decide) (by decide) rfl Pl.nF).mono ?_;rintro e w1 ⟨a0,b0,c0,m0,d0,F0,rfl,r,nd,lo,hb⟩;have A1:=uh (A0.out.push r nd lo hb);clear r nd lo hb A0;go_wp2_with fail
  refine(kj ⟨{data:=#[114,111,111,109]},[1],false,[{data:=#[49,48,48,48]}]⟩ ({data:=#[49,48,48,48]}) #[.int .i64 1] rfl w1 (by decide) (by decide) rfl Pl.qJ).mono ?_;rintro e w2 ⟨a1,b1,c1,m1,d1,F1,rfl,r,nd,lo,hb⟩;have A2:=uh (A1.out.push r nd lo hb);clear r nd lo hb A1;have HD:=uh (A2.out.done #[.string ({data:=#[99,111,112,105,101,115]}),.slice a0 1 b0,.bool false,.slice c0 m0 d0,.string ({data:=#[114,111,111,109]}),.slice a1 1 b1,.bool false,.slice c1 m1 d1] rfl (by decide));go_wp2_with (refine wpList_buildSlice rfl 62 96 2 _ rfl #[.string ({data:=#[99,111,112,105,101,115]}),.slice a0 1 b0,.bool false,.slice c0 m0 d0,.string ({data:=#[114,111,111,109]}),.slice a1 1 b1,.bool false,.slice c1 m1 d1] i0 _ Tryz.eM gF ga (by rw[dJ];decide) (by rw[dJ];decide) (by rw[dJ];kernel_rfl) ?_)
  go_ret;rw[HR.out];exact HD.out
 cases hberth:(s.toList==[98,101,114,116,104])
 rotate_left
 ·have HR:Hid (Pl.ai s=Pl.jd):=by show _=_;unfold Pl.ai;rw[if_neg (by rw[hteam];decide),if_pos hberth]
  go_enter Tryz.func27,Tryz.ntmps27
  go_upto_region 5 with fail
  clear hteam hberth;go_wp2_with fail
  refine(kj ⟨{data:=#[122,111,110,101]},[3],false,[{data:=#[122]}]⟩ ({data:=#[122]}) #[.int .i64 3] rfl w (by decide) (by decide) rfl Pl.pz).mono ?_;rintro e w1 ⟨a0,b0,c0,m0,d0,F0,rfl,r,nd,lo,hb⟩;have A1:=uh (A0.out.push r nd lo hb);clear r nd lo hb A0;go_wp2_with fail
  refine(kj ⟨{data:=#[114,111,111,109]},[1],false,[{data:=#[49,48,48]}]⟩ ({data:=#[49,48,48]}) #[.int .i64 1] rfl w1 (by decide) (by decide) rfl Pl.ps).mono ?_;rintro e w2 ⟨a1,b1,c1,m1,d1,F1,rfl,r,nd,lo,hb⟩;have A2:=uh (A1.out.push r nd lo hb);clear r nd lo hb A1;go_wp2_with fail
  refine(kj ⟨{data:=#[104,111,108,100]},[1],false,[{data:=#[49,48,48]}]⟩ ({data:=#[49,48,48]}) #[.int .i64 1] rfl w2 (by decide) (by decide) rfl Pl.oY).mono ?_;rintro e w3 ⟨a2,b2,c2,m2,d2,F2,rfl,r,nd,lo,hb⟩;have A3:=uh (A2.out.push r nd lo hb);clear r nd lo hb A2;go_wp2_with fail
  refine(IM ⟨{data:=#[109,97,114,107]},[3],true,[]⟩ #[.int .i64 3] rfl w3 (by decide) rfl rfl).mono ?_;rintro e w4 ⟨a3,b3,c3,m3,d3,F3,rfl,r,nd,lo,hb⟩;have A4:=uh (A3.out.push r nd lo hb);clear r nd lo hb A3;have HD:=uh (A4.out.done #[.string ({data:=#[122,111,110,101]}),.slice a0 1 b0,.bool false,.slice c0 m0 d0,.string ({data:=#[114,111,111,109]}),.slice a1 1 b1,.bool false,.slice c1 m1 d1,.string ({data:=#[104,111,108,100]}),.slice a2 1 b2,.bool false,.slice c2 m2 d2,.string ({data:=#[109,97,114,107]}),.slice a3 1 b3,.bool true,.slice c3 m3 d3] rfl (by decide));go_wp2_with (refine wpList_buildSlice rfl 62 96 4 _ rfl #[.string ({data:=#[122,111,110,101]}),.slice a0 1 b0,.bool false,.slice c0 m0 d0,.string ({data:=#[114,111,111,109]}),.slice a1 1 b1,.bool false,.slice c1 m1 d1,.string ({data:=#[104,111,108,100]}),.slice a2 1 b2,.bool false,.slice c2 m2 d2,.string ({data:=#[109,97,114,107]}),.slice a3 1 b3,.bool true,.slice c3 m3 d3] i0 _ Tryz.eM gF ga (by rw[dJ];decide) (by rw[dJ];decide) (by rw[dJ];kernel_rfl) ?_)
  go_ret;rw[HR.out];exact HD.out
 cases hservice:(s.toList==[115,101,114,118,105,99,101])
 rotate_left
 ·have HR:Hid (Pl.ai s=Pl.fY):=by show _=_;unfold Pl.ai;rw[if_neg (by rw[hteam];decide),if_neg (by rw[hberth];decide),if_pos hservice]
  go_enter Tryz.func27,Tryz.ntmps27
  go_upto_region 7 with fail
  clear hteam hberth hservice;go_wp2_with fail
  refine(kj ⟨{data:=#[116,101,97,109]},[3],false,[{data:=#[99,111,114,101]}]⟩ ({data:=#[99,111,114,101]}) #[.int .i64 3] rfl w (by decide) (by decide) rfl Pl.l6).mono ?_;rintro e w1 ⟨a0,b0,c0,m0,d0,F0,rfl,r,nd,lo,hb⟩;have A1:=uh (A0.out.push r nd lo hb);clear r nd lo hb A0;go_wp2_with fail
  refine(kj ⟨{data:=#[105,109,97,103,101]},[1],false,[{data:=#[49]}]⟩ ({data:=#[49]}) #[.int .i64 1] rfl w1 (by decide) (by decide) rfl Pl.lF).mono ?_;rintro e w2 ⟨a1,b1,c1,m1,d1,F1,rfl,r,nd,lo,hb⟩;have A2:=uh (A1.out.push r nd lo hb);clear r nd lo hb A1;go_wp2_with fail
  refine(kj ⟨{data:=#[119,97,110,116]},[1],false,[{data:=#[49]}]⟩ ({data:=#[49]}) #[.int .i64 1] rfl w2 (by decide) (by decide) rfl Pl.lV).mono ?_;rintro e w3 ⟨a2,b2,c2,m2,d2,F2,rfl,r,nd,lo,hb⟩;have A3:=uh (A2.out.push r nd lo hb);clear r nd lo hb A2;go_wp2_with fail
  refine(kj ⟨{data:=#[100,111,119,110]},[1],false,[{data:=#[49]}]⟩ ({data:=#[49]}) #[.int .i64 1] rfl w3 (by decide) (by decide) rfl Pl.mz).mono ?_;rintro e w4 ⟨a3,b3,c3,m3,d3,F3,rfl,r,nd,lo,hb⟩;have A4:=uh (A3.out.push r nd lo hb);clear r nd lo hb A3;go_wp2_with fail
  refine(kj ⟨{data:=#[111,118,101,114]},[1],false,[{data:=#[48]}]⟩ ({data:=#[48]}) #[.int .i64 1] rfl w4 (by decide) (by decide) rfl Pl.my).mono ?_;rintro e w5 ⟨a4,b4,c4,m4,d4,F4,rfl,r,nd,lo,hb⟩;have A5:=uh (A4.out.push r nd lo hb);clear r nd lo hb A4;go_wp2_with fail
  refine(kj ⟨{data:=#[110,101,101,100,115]},[1,1],false,[{data:=#[49]},{data:=#[49]}]⟩ ({data:=#[49,32,49]}) #[.int .i64 1,.int .i64 1] rfl w5 (by decide) (by decide) rfl Pl.lj).mono ?_;rintro e w6 ⟨a5,b5,c5,m5,d5,F5,rfl,r,nd,lo,hb⟩;have A6:=uh (A5.out.push r nd lo hb);clear r nd lo hb A5;go_wp2_with fail
  refine(kj ⟨{data:=#[119,104,101,114,101]},[4],false,[{data:=#[]}]⟩ ({data:=#[]}) #[.int .i64 4] rfl w6 (by decide) (by decide) rfl Pl.lu).mono ?_;rintro e w7 ⟨a6,b6,c6,m6,d6,F6,rfl,r,nd,lo,hb⟩;have A7:=uh (A6.out.push r nd lo hb);clear r nd lo hb A6;go_wp2_with fail
  refine(IM ⟨{data:=#[108,105,107,101]},[4,2],true,[]⟩ #[.int .i64 4,.int .i64 2] rfl w7 (by decide) rfl rfl).mono ?_;rintro e w8 ⟨a7,b7,c7,m7,d7,F7,rfl,r,nd,lo,hb⟩;have A8:=uh (A7.out.push r nd lo hb);clear r nd lo hb A7;go_wp2_with fail
  refine(kj ⟨{data:=#[97,112,97,114,116]},[6],false,[{data:=#[110,111,110,101]}]⟩ ({data:=#[110,111,110,101]}) #[.int .i64 6] rfl w8 (by decide) (by decide) rfl Pl.lH).mono ?_;rintro e w9 ⟨a8,b8,c8,m8,d8,F8,rfl,r,nd,lo,hb⟩;have A9:=uh (A8.out.push r nd lo hb);clear r nd lo hb A8;go_wp2_with fail
  refine(kj ⟨{data:=#[118,111,108,117,109,101]},[5],false,[{data:=#[110,111]}]⟩ ({data:=#[110,111]}) #[.int .i64 5] rfl w9 (by decide) (by decide) rfl Pl.kO).mono ?_;rintro e qv ⟨a9,b9,c9,m9,d9,F9,rfl,r,nd,lo,hb⟩;have A10:=uh (A9.out.push r nd lo hb);clear r nd lo hb A9;go_wp2_with fail
  refine(kj ⟨{data:=#[102,111,108,108,111,119]},[1,1,1],false,[{data:=#[48]},{data:=#[48]},{data:=#[48]}]⟩ ({data:=#[48,32,48,32,48]}) #[.int .i64 1,.int .i64 1,.int .i64 1] rfl qv (by decide) (by decide) rfl Pl.kH).mono ?_;rintro e yu ⟨a10,b10,c10,m10,d10,F10,rfl,r,nd,lo,hb⟩;have A11:=uh (A10.out.push r nd lo hb);clear r nd lo hb A10;go_wp2_with fail
  refine(kj ⟨{data:=#[112,97,99,101]},[1,1,1],false,[{data:=#[48]},{data:=#[48]},{data:=#[48]}]⟩ ({data:=#[48,32,48,32,48]}) #[.int .i64 1,.int .i64 1,.int .i64 1] rfl yu (by decide) (by decide) rfl Pl.lT).mono ?_;rintro e zJ ⟨a11,b11,c11,m11,d11,F11,rfl,r,nd,lo,hb⟩;have A12:=uh (A11.out.push r nd lo hb);clear r nd lo hb A11;have HD:=uh (A12.out.done #[.string ({data:=#[116,101,97,109]}),.slice a0 1 b0,.bool false,.slice c0 m0 d0,.string ({data:=#[105,109,97,103,101]}),.slice a1 1 b1,.bool false,.slice c1 m1 d1,.string ({data:=#[119,97,110,116]}),.slice a2 1 b2,.bool false,.slice c2 m2 d2,.string ({data:=#[100,111,119,110]}),.slice a3 1 b3,.bool false,.slice c3 m3 d3,.string ({data:=#[111,118,101,114]}),.slice a4 1 b4,.bool false,.slice c4 m4 d4,.string ({data:=#[110,101,101,100,115]}),.slice a5 2 b5,.bool false,.slice c5 m5 d5,.string ({data:=#[119,104,101,114,101]}),.slice a6 1 b6,.bool false,.slice c6 m6 d6,.string ({data:=#[108,105,107,101]}),.slice a7 2 b7,.bool true,.slice c7 m7 d7,.string ({data:=#[97,112,97,114,116]}),.slice a8 1 b8,.bool false,.slice c8 m8 d8,.string ({data:=#[118,111,108,117,109,101]}),.slice a9 1 b9,.bool false,.slice c9 m9 d9,.string ({data:=#[102,111,108,108,111,119]}),.slice a10 3 b10,.bool false,.slice c10 m10 d10,.string ({data:=#[112,97,99,101]}),.slice a11 3 b11,.bool false,.slice c11 m11 d11] rfl (by decide));go_wp2_with (refine wpList_buildSlice rfl 62 96 12 _ rfl #[.string ({data:=#[116,101,97,109]}),.slice a0 1 b0,.bool false,.slice c0 m0 d0,.string ({data:=#[105,109,97,103,101]}),.slice a1 1 b1,.bool false,.slice c1 m1 d1,.string ({data:=#[119,97,110,116]}),.slice a2 1 b2,.bool false,.slice c2 m2 d2,.string ({data:=#[100,111,119,110]}),.slice a3 1 b3,.bool false,.slice c3 m3 d3,.string ({data:=#[111,118,101,114]}),.slice a4 1 b4,.bool false,.slice c4 m4 d4,.string ({data:=#[110,101,101,100,115]}),.slice a5 2 b5,.bool false,.slice c5 m5 d5,.string ({data:=#[119,104,101,114,101]}),.slice a6 1 b6,.bool false,.slice c6 m6 d6,.string ({data:=#[108,105,107,101]}),.slice a7 2 b7,.bool true,.slice c7 m7 d7,.string ({data:=#[97,112,97,114,116]}),.slice a8 1 b8,.bool false,.slice c8 m8 d8,.string ({data:=#[118,111,108,117,109,101]}),.slice a9 1 b9,.bool false,.slice c9 m9 d9,.string ({data:=#[102,111,108,108,111,119]}),.slice a10 3 b10,.bool false,.slice c10 m10 d10,.string ({data:=#[112,97,99,101]}),.slice a11 3 b11,.bool false,.slice c11 m11 d11] i0 _ Tryz.eM gF ga (by rw[dJ];decide) (by rw[dJ];decide) (by rw[dJ];kernel_rfl) ?_)
  go_ret;rw[HR.out];exact HD.out
 have HR:Hid (Pl.ai s=[]):=by show _=_;unfold Pl.ai;rw[if_neg (by rw[hteam];decide),if_neg (by rw[hberth];decide),if_neg (by rw[hservice];decide)]
 go_enter Tryz.func27,Tryz.ntmps27
 go_wp2;go_ret;rw[HR.out];exact A0.out.done #[] rfl (by decide)
end Go.Proofs.YtopjjknojnfhmaaGreatDoor
