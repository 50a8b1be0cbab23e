import Derived.Deep.AppendLies
import Derived.Test.YtopjjknojnfhmaaGreatDoorEKk
import Derived.Test.YtopjjknojnfhmaaGreatDoorRgNw
import Derived.Test.YtopjjknojnfhmaaGreatDoorEXb
namespace Go.Proofs.YtopjjknojnfhmaaGreatDoor
open Go.RowKit Go.Deep
namespace Pl
def aY (ws:List ByteArray):Ln:=⟨ws.getD 0 aJ,ws.drop 1⟩
def gL (b:Bl) (ws:List ByteArray):Nat:=
 match bC (ai b.kind) (aY ws).key with
 |none=>5
 |some j=>
  if bh b.kind (aY ws).key (aY ws).ws=false then 7
  else if decide (0<gR b.lines (aY ws))||(decide (0<aI b.lines (aY ws).key)&& !((ai b.kind).getD j bq).many) then 6
  else if 10≤aI b.lines (aY ws).key then 10 else 0
def lz (b:Bl) (ws:List ByteArray):Bl:=if gL b ws=0 then ⟨b.kind,b.name,ck b.kind b.lines (aY ws)⟩ else b
end Pl
set_option maxHeartbeats 40000000
set_option maxRecDepth 8000
theorem yO (X:World) (lo:Nat) (a:ByteArray) (v:Value) (h:lo≤X.heap.size):(X.alloc (.cells #[.string a,v] 46)).ownsRow lo 46 2 (.slice (some ⟨X.heap.size,0,none⟩) 1 1) 1 [.string a,v]:=
 ⟨rfl,.inr ⟨X.heap.size,1,_,rfl,h,heap_alloc_new X _,zE,by decide,rfl,rfl⟩⟩
theorem rK {W:World} {lo:Nat} {e:TypeId} {size g n q:Nat} {xs:List Value} (h:W.ownsRow lo e size (.slice (some ⟨g,0,none⟩) n q) n xs) {j:Nat} (hj:j<n*size):(∃ v,W.cell? ⟨g,j,none⟩=some v)∧g<W.heap.size∧W.frozen? ⟨g,j,none⟩=false:=by
 rcases h.2 with⟨e1,_⟩|⟨g',cap,cur,e1,h1,h2,h3,h4,h5,h6⟩
 ·cases e1
 ·injection e1 with e1
  injection e1 with e1
  injection e1 with e1
  subst e1;have hl:j<cur.size:=by rw[h5];exact zL hj (Nat.mul_le_mul_right _ h3)
  exact⟨⟨cur[j],by simp[World.cell?,h2,hl]⟩,dN h2,gx h2 j⟩
theorem uO {W:World} {lo:Nat} {e:TypeId} {size g n q:Nat} {xs:List Value} (h:W.ownsRow lo e size (.slice (some ⟨g,0,none⟩) n q) n xs) (j:Nat) (v:Value):(W.setCell ⟨g,j,none⟩ v).ownsRow lo e size (.slice (some ⟨g,0,none⟩) n q) n (xs.set j v):=by
 refine⟨by rw[List.length_set];exact h.1, ?_⟩;rcases h.2 with⟨e1,_⟩|⟨g',cap,cur,e1,h1,h2,h3,h4,h5,h6⟩
 ·cases e1
 ·have e2:=e1;injection e1 with e1
  injection e1 with e1
  injection e1 with e1
  subst e1;refine .inr ⟨g,cap,cur.setIfInBounds j v,e2,h1, ?_,h3,h4,by rw[Array.size_setIfInBounds];exact h5, ?_⟩
  ·simp only[World.setCell];rw[Array.getElem?_modify,if_pos rfl,h2];rfl
  ·rw[Array.toList_setIfInBounds,← h6,List.take_set]
theorem uG (ca cb:List Value) (a b c v:Value) {k:Nat} (h:ca.length=k*3):(ca++[a,b,c]++cb).set (k*3+2) v=ca++[a,b,v]++cb:=by
 rw[List.append_assoc,List.set_append_right _ _ (by omega),show k*3+2 - ca.length=2 by omega,List.append_assoc];rfl
theorem uo {l:List Pl.Ru} {key:ByteArray} {W:World} {e:Ending} (h:lB l key W e) (har:∀ r∈l,∀ z∈r.args,1≤z∧z≤6):
  ∃ c0 a1 n1 c1 a3 n3 c3,e=.returned (.tuple #[.agg #[.string c0,.slice a1 n1 c1,.bool (Pl.gj l key),.slice a3 n3 c3],.bool (Pl.bC l key).isSome])∧
   ((Pl.bC l key).isSome=true→∀ (X:World),Bel W X→∀ (ws:List ByteArray) (wv:Value),Raw X [.row 9 [.s]] [.row ws.length (txD ws)] [wv]→(∀ y∈ws,y.size≤maxLen)→Calls Tryz.prog 46 #[.agg #[.string c0,.slice a1 n1 c1,.bool (Pl.gj l key),.slice a3 n3 c3],wv] X fun e w'=>e=.returned (.bool (Pl.im l key ws))∧Bel X w'):=by
 unfold lB at h;unfold Pl.gj Pl.im;cases lL:Pl.bC l key with
 |none=>
  rw[lL]at h;simp only at h ⊢;exact⟨_,_,_,_,_,_,_,h,(fun h=>by cases h)⟩
 |some j=>
  rw[lL]at h;simp only at h ⊢;have hj:=Pl.iZ lL;obtain⟨a1,c1,a3,c3,he,hA,hD⟩:=h;refine⟨_,_,_,_,_,_,_,he,fun _ X hX ws wv hw hs=>mT _ _ _ a1 c1 _ ws wv X (hA.later hX) hw ?_ hs⟩;have e:l.getD j Pl.bq=l[j]:=by simp[hj]
  rw[e];exact har _ (List.getElem_mem hj)
def adC (l:List Pl.Ru) (ky:Nat) (x:Pl.Ln) (ag:Bool):Nat:=
 if (Pl.bC l x.key).isSome=false then 5 else if Pl.im l x.key x.ws=false then 7 else if (ag||(decide (0<ky)&& !Pl.gj l x.key))=true then 6 else if ky=10 then 10 else 0
def Kx (rb:Nat) (g:Nat) (n:Nat) (q:Nat) (pl:Nat):Nat→Value→World→Prop
 |0,vv,_|1,vv,_|4,vv,_|5,vv,_=>vv=.pointer (some ⟨rb,0,none⟩)
 |2,vv,_=>vv=.pointer (some ⟨rb,5,none⟩)
 |3,vv,_=>vv=.slice (some ⟨g,0,none⟩) n q
 |6,vv,_=>vv=.pointer (some ⟨rb,6,none⟩)
 |7,vv,_=>vv=.int .i64 (pl:Int)
 |8,vv,_|9,vv,_=>vv=.pointer (some ⟨g,pl*3,none⟩)
 |_,_,_=>True
theorem AJ (rb:Nat) (g:Nat) (n:Nat) (q:Nat) (pl:Nat):∀ jj vv W W',Bel W W'→Kx rb g n q pl jj vv W→Kx rb g n q pl jj vv W':=by
 intro jj vv W W' hb h;match jj with
 |0|1|2|3|4|5|6|7|8|9=>exact h
 |n+10=>exact trivial
def Ki (g:Nat) (pl:Nat) (q5:Nat) (ln:Nat) (lq:Nat) (ky:Nat) (l1:Option Addr) (key:ByteArray):Nat→Value→World→Prop
 |0,vv,_|1,vv,_=>vv=.pointer (some ⟨g,pl*3,none⟩)
 |2,vv,_=>vv=.pointer (some ⟨g,pl*3+2,none⟩)
 |3,vv,_=>vv=.slice l1 ln lq
 |4,vv,_=>vv=.pointer (some ⟨q5,0,none⟩)
 |5,vv,_=>vv=.string key
 |6,vv,_|7,vv,_=>vv=.int .i64 (ky:Int)
 |_,_,_=>True
theorem zO (g:Nat) (pl:Nat) (q5:Nat) (ln:Nat) (lq:Nat) (ky:Nat) (l1:Option Addr) (key:ByteArray):∀ jj vv W W',Bel W W'→Ki g pl q5 ln lq ky l1 key jj vv W→Ki g pl q5 ln lq ky l1 key jj vv W':=by
 intro jj vv W W' hb h;match jj with
 |0|1|2|3|4|5|6|7=>exact h
 |n+8=>exact trivial
def KG (g:Nat) (pl:Nat) (ln:Nat) (lq:Nat) (pi:Nat) (m:Nat) (tc:Nat) (rc:Nat) (l1:Option Addr) (ta:Option Addr) (ra:Option Addr) (l:List Pl.Ru) (key:ByteArray) (ag:Bool):Nat→Value→World→Prop
 |0,vv,_|1,vv,_=>vv=.pointer (some ⟨g,pl*3,none⟩)
 |2,vv,_=>vv=.pointer (some ⟨g,pl*3+2,none⟩)
 |3,vv,_=>vv=.slice l1 ln lq
 |4,vv,_=>vv=.agg #[.string key,.slice ta m tc]
 |5,vv,_=>vv=.agg #[.slice ra l.length rc]
 |6,vv,_=>vv=.func (.func 49) #[.agg #[.slice ra l.length rc]] #[]
 |7,vv,_|8,vv,_=>vv=.tuple #[.int .i64 (pi:Int),.bool ag]
 |9,vv,_|11,vv,_=>vv=.int .i64 (pi:Int)
 |10,vv,_|12,vv,_=>vv=.bool ag
 |_,_,_=>True
theorem zS (g:Nat) (pl:Nat) (ln:Nat) (lq:Nat) (pi:Nat) (m:Nat) (tc:Nat) (rc:Nat) (l1:Option Addr) (ta:Option Addr) (ra:Option Addr) (l:List Pl.Ru) (key:ByteArray) (ag:Bool):∀ jj vv W W',Bel W W'→KG g pl ln lq pi m tc rc l1 ta ra l key ag jj vv W→KG g pl ln lq pi m tc rc l1 ta ra l key ag jj vv W':=by
 intro jj vv W W' hb h;match jj with
 |0|1|2|3|4|5|6|7|8|9|10|11|12=>exact h
 |n+13=>exact trivial
def AB (g:Nat) (pl:Nat) (ln:Nat) (lq:Nat) (pi:Nat) (m:Nat) (tc:Nat) (nw:Nat) (l1:Option Addr) (ta:Option Addr) (key:ByteArray):Nat→Value→World→Prop
 |0,vv,_|1,vv,_|2,vv,_|9,vv,_=>vv=.pointer (some ⟨g,pl*3,none⟩)
 |3,vv,_|10,vv,_=>vv=.pointer (some ⟨g,pl*3+2,none⟩)
 |4,vv,_=>vv=.slice l1 ln lq
 |5,vv,_=>vv=.int .i64 (pi:Int)
 |6,vv,_=>vv=.agg #[.string key,.slice ta m tc]
 |7,vv,W=>∃ gg,vv=.slice (some ⟨gg,0,none⟩) 1 1∧W.ownsRow nw 46 2 (.slice (some ⟨gg,0,none⟩) 1 1) 1 [.string key,.slice ta m tc]
 |8,vv,_=>vv=undef
 |_,_,_=>True
theorem rW (g:Nat) (pl:Nat) (ln:Nat) (lq:Nat) (pi:Nat) (m:Nat) (tc:Nat) (nw:Nat) (l1:Option Addr) (ta:Option Addr) (key:ByteArray):∀ jj vv W W',Bel W W'→AB g pl ln lq pi m tc nw l1 ta key jj vv W→AB g pl ln lq pi m tc nw l1 ta key jj vv W':=by
 intro jj vv W W' hb h;match jj with
 |0|1|2|3|4|5|6|8|9|10=>exact h
 |7=>
  obtain⟨gg,h1,h2⟩:=h;exact⟨gg,h1,bK h2 (Frm.aG (S:=fun _=>False) hb) (fun _ _ h=>h)⟩
 |n+11=>exact trivial
theorem QH (rb mb:Nat) (lv:Value) (at_:Int) (p o m wc:Nat) (ws:List ByteArray) (g n q pl:Nat) (ca cb:List Value) (kind name:ByteArray) (l1:Option Addr) (ln lq:Nat) (L:List Pl.Ln) (cl:List Value) (FL:List Nat) (l:List Pl.Ru) (ra:Option Addr) (rc:Nat) (w0 w:World)
  (eE:al w rb 111 [.map (some mb),lv,.int .i64 at_,.slice (some ⟨p,o,none⟩) (m+1) wc,.bool false,.slice (some ⟨g,0,none⟩) n q,.int .i64 (pl:Int)]) (LL:ws.length=m+1) (hw:Raw w bB [.row (m+1) (txD ws)] [.slice (some ⟨p,o,none⟩) (m+1) wc]) (zH:∀ x∈ws,x.size≤maxLen)
  (BR:w.ownsRow (rb+1) 41 3 (.slice (some ⟨g,0,none⟩) n q) n (ca++[.string kind,.string name,.slice l1 ln lq]++cb)) (hca:ca.length=pl*3) (JC:pl<n) (_:n≤60)
  (oG:w.ownsRow (rb+1) 46 2 (.slice l1 ln lq) ln cl) (hLn:L.length=ln) (Ov:Rep w false (bf ln aA) FL (L.flatMap lnD) cl) (zG:ln≤1000)
  (cd:Bel w0 w) (tW:∀ W,Bel w W→(Instr.lookup 60 (.map (some mb)) (.string kind) false).run Tryz.prog W=.ok (.agg #[.slice ra l.length rc]) W)
  (sj:Raw w0 [.row 96 aF] [cQ l] [.slice ra l.length rc]) (zC:l.length≤100) (har:∀ r∈l,∀ z∈r.args,1≤z∧z≤6)
  (pi:Nat) (hpi:pi≤L.length) (h1:∀ i,i<pi→dp l (L.getD i Pl.aK) (Pl.aY ws)<0) (h2:∀ i,pi≤i→i<L.length→0≤dp l (L.getD i Pl.aK) (Pl.aY ws)) (ag:Bool) (oK:ag=(decide (pi<L.length)&&decide (dp l (L.getD pi Pl.aK) (Pl.aY ws)=0)))
  (ta:Option Addr) (tc:Nat) (hta:(if wc=1 then (some ⟨p,o,none⟩:Option Addr) else some ⟨p,o+1,none⟩)=ta) (htc:wc - 1=tc) (Ll:Raw w bB [.row m (txD (ws.drop 1))] [.slice ta m tc]):
  Calls Tryz.prog 79 #[.pointer (some ⟨rb,0,none⟩)] w fun e w'=>
   (adC l (Pl.aI L (Pl.aY ws).key) (Pl.aY ws) ag≠0∧e=.returned (.iface 76 (.agg #[.int .i64 at_,.int .i64 (adC l (Pl.aI L (Pl.aY ws).key) (Pl.aY ws) ag:Nat)]))∧Bel w w')∨
   (adC l (Pl.aI L (Pl.aY ws).key) (Pl.aY ws) ag=0∧e=.returned .nilIface∧∃ g' q',w'.ownsRow (rb+1) 41 3 (.slice (some ⟨g,0,none⟩) n q) n (ca++[.string kind,.string name,.slice (some ⟨g',0,none⟩) (ln+1) q']++cb)∧w'.ownsRow (rb+1) 46 2 (.slice (some ⟨g',0,none⟩) (ln+1) q') (ln+1) (cl.take (pi*2)++[.string (Pl.aY ws).key,.slice ta m tc]++cl.drop (pi*2))∧Frm (fun b=>b=g∨(Value.slice l1 ln lq).ownBlock=some b) w w'∧(l1=some ⟨g',0,none⟩∨w.heap.size≤g')):=by
 have jE:=uh eE;have Jz:=uh BR;have JM:=uh oG;have mO:Hid (∀ u∈cl,u.oneCell'=true):=za Ov;have P3:=uh hca;have OU:=uh JC;have BU:=uh tW;have OI:=uh har;have gf:=uh (sj.later cd);have c2:=eE.get 2 _ rfl;have cl_:=eE.own.lt;have yk:=uh (fun (code:Int) (W:World) (hW:Bel w W)=>sO rb at_ code W ((hW.cell (p:=⟨rb,2,none⟩) cl_).trans c2) (zL cl_ hW.size));have Ez:Hid (Raw w bF [bT L] [.slice l1 ln lq]):=by
  have q:=rQ (sh:=aA) oG Ov (fun h=>by rw[List.eq_nil_of_length_eq_zero (hLn.trans h)];rfl) (by unfold maxLen;omega);show Raw _ _ _ _;unfold bT;rw[hLn];exact q
 obtain⟨x,hx⟩:∃ x,x=Pl.aY ws:=⟨_,rfl⟩
 have wM:=uh hx;have Sr:ws.getD 0 Pl.aJ=x.key:=by rw[hx];rfl
 have Qu:ws.drop 1=x.ws:=by rw[hx];rfl
 have gD:x.ws.length=m:=by rw[← Qu,List.length_drop];omega
 have N1:=uh gD;rw[← hx]at h1 h2 oK ⊢;rw[Qu]at Ll;have HTR:=uh Ll;have Qk:Hid (∀ y∈x.ws,y.size≤maxLen):=fun y hy=>zH y (by rw[← Qu]at hy;exact List.mem_of_mem_drop hy);have qU:=uh (fun (X:World) (hX:Bel w X)=>NL l ra rc zC L (.slice l1 ln lq) x ta tc pi X (gf.out.later hX) (Ez.out.later hX) (by rw[gD];exact HTR.out.later hX) (by omega) hpi h1 h2);have Ly:=uh (fun (X:World) (hX:Bel w X)=>Kh L (.slice l1 ln lq) x.key X (Ez.out.later hX) (by omega));have Pv:=uh (fun (X:World) (hX:Bel w X)=>IW l ra rc x.key w X hX zC gf.out);rw[← oK]at qU;rw[gD]at qU;obtain⟨ky,PT⟩:∃ ky,ky=Pl.aI L x.key:=⟨_,rfl⟩
 rw[← PT]at Ly ⊢;have M3:Hid (pi≤ln):=by show _≤_;omega
 have je:Hid (ln≤1000):=zG;have Bv:Hid (adC l ky x ag=if (Pl.bC l x.key).isSome=false then 5 else if Pl.im l x.key x.ws=false then 7 else if (ag||(decide (0<ky)&& !Pl.gj l x.key))=true then 6 else if ky=10 then 10 else 0):=rfl;obtain⟨key,PI⟩:∃ key,key=x.key:=⟨_,rfl⟩
 rw[← PI]at qU Ly Pv Bv Sr ⊢;have Q4:w.rangeAt g (pl*3) [.string kind,.string name,.slice l1 ln lq]:=by
  rcases BR.2 with⟨e1,_⟩|⟨g',cap,cur,e1,_,So,_,_,_,h6⟩
  ·cases e1
  ·injection e1 with e1
   injection e1 with e1
   injection e1 with e1
   subst e1;intro j u hj;have Ox:j<3:=(List.getElem?_eq_some_iff.1 hj).1;have q:(ca++[.string kind,.string name,.slice l1 ln lq]++cb)[pl*3+j]? =some u:=by
    rw[List.append_assoc,List.getElem?_append_right (by omega),show pl*3+j - ca.length=j by omega,List.getElem?_append_left (by simpa using Ox)];exact hj
   rw[← h6,List.getElem?_take]at q;simp only[World.cell?,So];split at q
   ·simpa using q
   ·cases q
 have tP:g<w.heap.size:=by obtain⟨_,cur,yz⟩:=cC BR (g:=g) rfl;exact dN yz
 have EX:=uh Q4;have qR:=uh tP;have Rm:(0:Int)≤(pl:Int):=by omega
 have Si:(pl:Int)<(n:Int):=by omega
 have y0:w.cell? ⟨p,o,none⟩=some (.string key):=by
  rw[← Sr];rcases dS (by rw[LL];exact hw) with⟨e0,_⟩|⟨p',o',c',hv,_,_,aO⟩
  ·omega
  injection hv with g1 _ _
  injection g1 with g1
  injection g1 with e1 e2
  subst e1;subst e2;simpa using aO 0 (by omega)
 have FE:p<w.heap.size:=by
  rcases hw.slice with⟨e0,_⟩|⟨p',o',c',hv,QZ,_⟩
  ·omega
  injection hv with g1 _ _
  injection g1 with g1
  injection g1 with e1 _
  rw[e1];exact QZ
 have HTA:=uh (And.intro hta htc);have c0:=eE.get 0 _ rfl;have c3:=eE.get 3 _ rfl;have c4:=eE.get 4 _ rfl;have b0:w.cell? ⟨g,pl*3,none⟩=some (.string kind):=aE Q4 0 _ rfl;clear eE BR oG Ov sj cd tW har hw zH Ll hta htc PT PI Sr Qu hx h1 h2 oK Q4 Ez;go_enter Tryz.func79,Tryz.ntmps79
 go_upto_region 3 with fail
 refine RY.cA w zR (Kx rb g n q pl) (AJ _ _ _ _ _) (by kernel_rfl) (by kernel_rfl) (by kernel_rfl) (by kernel_rfl) ?_ ?_
 ·intro ii o' ho a X hX hk hd;have zrb:=jE.out.later hX;have zrbl:=zrb.own.lt;match ii,ho with
  |0,rfl|4,rfl=>
   exact RY.p (.pointer (some ⟨rb,0,none⟩)) (by simp[execOp,go_sem,RY.K hk 0 (.pointer (some ⟨rb,0,none⟩))])
  |1,rfl=>
   exact RY.p (.pointer (some ⟨rb,0,none⟩)) (by simp[execOp,go_sem,RY.E hd 0 18])
  |2,rfl=>
   exact RY.p (.pointer (some ⟨rb,5,none⟩)) (by simp[execOp,go_sem,RY.E hd 1 19])
  |3,rfl=>
   have e20:=RY.E hd 2 20;have ycl_:=zrb.get 5 _ rfl;exact RY.p (.slice (some ⟨g,0,none⟩) n q) (by simp[execOp,go_sem,e20,ycl_])
  |5,rfl=>
   exact RY.p (.pointer (some ⟨rb,0,none⟩)) (by simp[execOp,go_sem,RY.E hd 4 22])
  |6,rfl=>
   exact RY.p (.pointer (some ⟨rb,6,none⟩)) (by simp[execOp,go_sem,RY.E hd 5 23])
  |7,rfl=>
   have e24:=RY.E hd 6 24;have ycl_:=zrb.get 6 _ rfl;exact RY.p (.int .i64 (pl:Int)) (by simp[execOp,go_sem,e24,ycl_])
  |8,rfl=>
   exact RY.p (.pointer (some ⟨g,pl*3,none⟩)) (by simp[execOp,go_sem,RY.E hd 3 21,RY.E hd 7 25,Rm,Si])
  |9,rfl=>
   exact RY.p (.pointer (some ⟨g,pl*3,none⟩)) (by simp[execOp,go_sem,RY.E hd 8 26])
  |n+10,ho=>simp at ho
 intro X vs hX bg;have q3:vs 3=_:=bg 9 _ 3 rfl rfl;simp only[RY.aC,Act.put,List.setIfInBounds_toArray,List.set_cons_zero,List.set_cons_succ];rw[q3];generalize vs 18=s18,vs 19=s19,vs 20=s20,vs 21=s21,vs 22=s22,vs 23=s23,vs 24=s24,vs 25=s25,vs 26=s26;clear bg q3;have kz:Hid (Bel w X):=hX;obtain⟨w1,qq⟩:∃ w1,w1=X:=⟨_,rfl⟩
 rw[← qq]at kz ⊢;clear qq hX;have oJ:(0:Int)<(m:Int)+1:=by omega
 have f1:∀ W,Bel w W→W.cell? ⟨rb,0,none⟩=some (.map (some mb))∧W.cell? ⟨g,pl*3,none⟩=some (.string kind)∧rb<W.heap.size∧g<W.heap.size:=fun W h=>⟨(h.cell (p:=⟨rb,0,none⟩) cl_).trans c0,(h.cell (p:=⟨g,pl*3,none⟩) tP).trans b0,zL cl_ h.size,zL tP h.size⟩
 have FT:=uh f1;have f2:∀ W,Bel w W→W.cell? ⟨rb,3,none⟩=some (.slice (some ⟨p,o,none⟩) (m+1) wc)∧W.cell? ⟨p,o,none⟩=some (.string key)∧rb<W.heap.size∧p<W.heap.size:=fun W h=>⟨(h.cell (p:=⟨rb,3,none⟩) cl_).trans c3,(h.cell (p:=⟨p,o,none⟩) FE).trans y0,zL cl_ h.size,zL FE h.size⟩
 have zF:=uh f2;clear f1 f2 c0 c2 c3 c4 b0 y0 FE tP cl_;have Bu:Bel w (w1.alloc (.cells #[.slice none 0 0] 64)).drew:=Below.drew (ae kz.out _);obtain⟨a0,a1_,a2_,a3_⟩:=FT.out w1.drew (Below.drew kz.out);obtain⟨b0,b1_,b2_,b3_⟩:=FT.out _ Bu;have zk:=BU.out w1.drew (Below.drew kz.out);have zka:=BU.out _ Bu;clear Bu;go_upto_region 4 with fail
 go_region
 all_goals
  clear a0 a1_ a2_ a3_ b0 b1_ b2_ b3_ zk zka;obtain⟨w4,BM⟩:∃ w4,w4=(w1.alloc (.cells #[.slice ra l.length rc] 64)).drew:=⟨_,rfl⟩
  obtain⟨q4,LQ⟩:∃ q4,q4=w1.heap.size:=⟨_,rfl⟩
  have Rr:Hid (al w4 q4 64 [.slice ra l.length rc]):=by
   show al _ _ _ _;rw[BM,LQ];exact(al.new w1 [.slice ra l.length rc] 64 _ rfl).later (Below.drew zR)
  have ue:Hid (Bel w w4):=by show Below _ _ _;rw[BM];exact Below.drew (ae kz.out _)
  have Bu:Bel w (w4.alloc (.cells #[.string {data:=#[]},.slice none 0 0] 46)).drew:=Below.drew (ae ue.out _);obtain⟨a0,a1_,a2_,a3_⟩:=zF.out w4.drew (Below.drew ue.out);obtain⟨b0,b1_,b2_,b3_⟩:=zF.out _ Bu;clear Bu;go_upto_region 5 with fail
  rw[← BM,← LQ];clear BM LQ;go_region
  all_goals
   clear a0 a1_ a2_ a3_ b0 b1_ b2_ b3_;obtain⟨w5,Iw⟩:∃ w5,w5=(w4.alloc (.cells #[.string key,.slice ta m tc] 46)).drew:=⟨_,rfl⟩
   obtain⟨q5,Rq⟩:∃ q5,q5=w4.heap.size:=⟨_,rfl⟩
   have Lj:Hid (al w5 q5 46 [.string key,.slice ta m tc]):=by
    show al _ _ _ _;rw[Iw,Rq];exact(al.new w4 [.string key,.slice ta m tc] 46 _ rfl).later (Below.drew zR)
   have H45:Hid (Bel w4 w5):=by show Below _ _ _;rw[Iw];exact Below.drew (ae zR _)
   have HW5:Hid (Bel w w5):=ah ue.out H45.out;have LI:=uh (Rr.out.later H45.out);have e4:=LI.out.get 0 _ rfl;have e4l:=LI.out.own.lt;have e5:=Lj.out.get 0 _ rfl;have e5l:=Lj.out.own.lt;have HRU:=uh (Pv.out w5 HW5.out);go_upto_region 6 with fail
   rw[HTA.out.1,HTA.out.2];rw[← Iw,← Rq];clear Iw Rq;go_wp2_with fail
   refine HRU.out.mono ?_;rintro e Sy ⟨Px,BG⟩;obtain⟨r0,ra1,rn1,rc1,ra3,rn3,rc3,he,Fm⟩:=uo Px OI.out;subst he;have Bj:=uh Fm;clear Px Fm HRU e4 e4l e5 e5l;obtain⟨mn,qj⟩:∃ mn,mn=Pl.gj l key:=⟨_,rfl⟩
   obtain⟨kn,dP⟩:∃ kn,kn=(Pl.bC l key).isSome:=⟨_,rfl⟩
   rw[← qj,← dP]at Bj ⊢;rw[← qj,← dP]at Bv;clear qj dP;obtain⟨w6,Hu⟩:∃ w6,w6=Sy.alloc (.cells #[.string r0,.slice ra1 rn1 rc1,.bool mn,.slice ra3 rn3 rc3] 96):=⟨_,rfl⟩
   obtain⟨q6,SH⟩:∃ q6,q6=Sy.heap.size:=⟨_,rfl⟩
   have Ss:Hid (Bel w5 w6):=by show Below _ _ _;rw[Hu];exact ae BG _
   have RZ:Hid (al w6 q6 96 [.string r0,.slice ra1 rn1 rc1,.bool mn,.slice ra3 rn3 rc3]):=by show al _ _ _ _;rw[Hu,SH];exact al.new Sy [.string r0,.slice ra1 rn1 rc1,.bool mn,.slice ra3 rn3 rc3] 96 _ rfl
   have EM:Hid (Bel w w6):=ah HW5.out Ss.out;have tB:=uh (LI.out.later Ss.out);have tX:=uh (Lj.out.later Ss.out);have fg:Hid (w6.rangeAt g (pl*3) [.string kind,.string name,.slice l1 ln lq]):=aB EX.out qR.out EM.out;have fB:Hid (g<w6.heap.size):=zL qR.out EM.out.size;have qi:=uh (fun (X:World) (hX:Bel w6 X)=>Ly.out X (ah EM.out hX));go_upto_region 7 with fail
   rw[← Hu,← SH];clear Hu SH BG;refine RY.cA w6 zR (Ki g pl q5 ln lq ky l1 key) (zO _ _ _ _ _ _ _ _) (by kernel_rfl) (by kernel_rfl) (by kernel_rfl) (by kernel_rfl) ?_ ?_
   ·intro ii o' ho a X hX hk hd;have zq5:=tX.out.later hX;have zq5l:=zq5.own.lt;match ii,ho with
    |0,rfl=>
     exact RY.p (.pointer (some ⟨g,pl*3,none⟩)) (by simp[execOp,go_sem,RY.K hk 3 (.pointer (some ⟨g,pl*3,none⟩))])
    |1,rfl=>
     exact RY.p (.pointer (some ⟨g,pl*3,none⟩)) (by simp[execOp,go_sem,RY.E hd 0 57])
    |2,rfl=>
     exact RY.p (.pointer (some ⟨g,pl*3+2,none⟩)) (by simp[execOp,go_sem,RY.E hd 1 58])
    |3,rfl=>
     have e59:=RY.E hd 2 59;have ypl_:=zL fB.out hX.size;have ycl_:X.cell? ⟨g,pl*3+2,none⟩=some (.slice l1 ln lq):=by have q:=aE (aB fg.out fB.out hX) 2 _ rfl;simpa using q
     exact RY.p (.slice l1 ln lq) (by simp[execOp,go_sem,e59,ycl_])
    |4,rfl=>
     exact RY.p (.pointer (some ⟨q5,0,none⟩)) (by simp[execOp,go_sem,RY.K hk 5 (.pointer (some ⟨q5,0,none⟩))])
    |5,rfl=>
     have e61:=RY.E hd 4 61;have ycl_:=zq5.get 0 _ rfl;exact RY.p (.string key) (by simp[execOp,go_sem,e61,ycl_])
    |6,rfl=>
     have e60:=RY.E hd 3 60;have e62:=RY.E hd 5 62;refine Or.inr ⟨102,#[.slice l1 ln lq,.string key],by simp[go_sem,e60,e62],(qi.out X hX).mono ?_⟩;rintro e W' ⟨rfl,hb⟩;exact⟨_,rfl,hb,rfl⟩
    |7,rfl=>
     exact RY.p (.int .i64 (ky:Int)) (by simp[execOp,go_sem,RY.E hd 6 63])
    |n+8,ho=>simp at ho
   intro X vs hX bg;have q8:vs 8=_:=bg 7 _ 8 rfl rfl;simp only[RY.aC,Act.put,List.setIfInBounds_toArray,List.set_cons_zero,List.set_cons_succ];rw[q8];generalize vs 57=s57,vs 58=s58,vs 59=s59,vs 60=s60,vs 61=s61,vs 62=s62,vs 63=s63;clear bg q8;have BL:Hid (Bel w X):=ah EM.out hX;have HQ4_:=uh (tB.out.later hX);have HQ5_:=uh (tX.out.later hX);have PE:=uh (RZ.out.later hX);obtain⟨w7,LD⟩:∃ w7,w7=X:=⟨_,rfl⟩
   rw[← LD]at BL HQ4_ HQ5_ PE ⊢;clear LD hX;replace tB:=HQ4_
   replace tX:=HQ5_
   clear HQ4_ HQ5_;replace fg:Hid (w7.rangeAt g (pl*3) [.string kind,.string name,.slice l1 ln lq]):=aB EX.out qR.out BL.out
   replace fB:Hid (g<w7.heap.size):=zL qR.out BL.out.size
   have Qi:=uh (fun (X:World) (hX:Bel w7 X)=>qU.out X (ah BL.out hX));go_upto_region 8 with fail
   refine RY.cA w7 zR (KG g pl ln lq pi m tc rc l1 ta ra l key ag) (zS _ _ _ _ _ _ _ _ _ _ _ _ _ _) (by kernel_rfl) (by kernel_rfl) (by kernel_rfl) (by kernel_rfl) ?_ ?_
   ·intro ii o' ho a X hX hk hd;have zq5:=tX.out.later hX;have zq5l:=zq5.own.lt;have zq4:=tB.out.later hX;have zq4l:=zq4.own.lt;match ii,ho with
    |0,rfl=>
     exact RY.p (.pointer (some ⟨g,pl*3,none⟩)) (by simp[execOp,go_sem,RY.K hk 3 (.pointer (some ⟨g,pl*3,none⟩))])
    |1,rfl=>
     exact RY.p (.pointer (some ⟨g,pl*3,none⟩)) (by simp[execOp,go_sem,RY.E hd 0 65])
    |2,rfl=>
     exact RY.p (.pointer (some ⟨g,pl*3+2,none⟩)) (by simp[execOp,go_sem,RY.E hd 1 66])
    |3,rfl=>
     have e67:=RY.E hd 2 67;have ypl_:=zL fB.out hX.size;have ycl_:X.cell? ⟨g,pl*3+2,none⟩=some (.slice l1 ln lq):=by have q:=aE (aB fg.out fB.out hX) 2 _ rfl;simpa using q
     exact RY.p (.slice l1 ln lq) (by simp[execOp,go_sem,e67,ycl_])
    |4,rfl=>
     have v5:a.eval (.tmp 5)=.pointer (some ⟨q5,0,none⟩):=(hk 5 (by kernel_rfl)).trans rfl;exact Or.inl ⟨_,X,ar 46 _ rfl q5 0 v5 [.string key,.slice ta m tc] _ zq5.at_ Tryz.underlying46 rfl (by kernel_rfl),zR,rfl⟩
    |5,rfl=>
     have v4:a.eval (.tmp 4)=.pointer (some ⟨q4,0,none⟩):=(hk 4 (by kernel_rfl)).trans rfl;exact Or.inl ⟨_,X,ar 64 _ rfl q4 0 v4 [.slice ra l.length rc] _ zq4.at_ Tryz.underlying64 rfl (by kernel_rfl),zR,rfl⟩
    |6,rfl=>
     exact RY.p (.func (.func 49) #[.agg #[.slice ra l.length rc]] #[]) (by simp[execOp,go_sem,RY.E hd 5 70])
    |7,rfl=>
     have e68:=RY.E hd 3 68;have e69:=RY.E hd 4 69;have e71:=RY.E hd 6 71;refine Or.inr ⟨103,#[.slice l1 ln lq,.agg #[.string key,.slice ta m tc],.func (.func 49) #[.agg #[.slice ra l.length rc]] #[]],by simp[go_sem,e68,e69,e71],(Qi.out X hX).mono ?_⟩;rintro e W' ⟨rfl,hb⟩;exact⟨_,rfl,hb,rfl⟩
    |8,rfl=>
     exact RY.p (.tuple #[.int .i64 (pi:Int),.bool ag]) (by simp[execOp,go_sem,RY.E hd 7 72])
    |9,rfl=>
     exact RY.p (.int .i64 (pi:Int)) (by simp[execOp,go_sem,RY.E hd 8 64])
    |10,rfl=>
     exact RY.p (.bool ag) (by simp[execOp,go_sem,RY.E hd 8 64])
    |11,rfl=>
     exact RY.p (.int .i64 (pi:Int)) (by simp[execOp,go_sem,RY.E hd 9 73])
    |12,rfl=>
     exact RY.p (.bool ag) (by simp[execOp,go_sem,RY.E hd 10 74])
    |n+13,ho=>simp at ho
   intro X vs hX bg;have q9:vs 9=_:=bg 11 _ 9 rfl rfl;have q10:vs 10=_:=bg 12 _ 10 rfl rfl;simp only[RY.aC,Act.put,List.setIfInBounds_toArray,List.set_cons_zero,List.set_cons_succ];rw[q9,q10];generalize vs 65=s65,vs 66=s66,vs 67=s67,vs 68=s68,vs 69=s69,vs 70=s70,vs 71=s71,vs 72=s72,vs 64=s64,vs 73=s73,vs 74=s74;clear bg q9 q10;have fN:Hid (Bel w X):=ah BL.out hX;have HQ5_:=uh (tX.out.later hX);have sd:=uh (PE.out.later hX);obtain⟨wq,qL⟩:∃ wq,wq=X:=⟨_,rfl⟩
   rw[← qL]at fN HQ5_ sd ⊢;clear qL hX;replace tX:=HQ5_
   clear HQ5_;replace fg:Hid (wq.rangeAt g (pl*3) [.string kind,.string name,.slice l1 ln lq]):=aB EX.out qR.out fN.out
   replace fB:Hid (g<wq.heap.size):=zL qR.out fN.out.size
   have f0:=sd.out.get 0 _ rfl;have f1:=sd.out.get 1 _ rfl;have f2:=sd.out.get 2 _ rfl;have f3:=sd.out.get 3 _ rfl;have fl:=sd.out.own.lt;have k1_:=tX.out.get 1 _ rfl;have kl:=tX.out.own.lt;cases kn
   ·have ib:Hid (adC l ky x ag=5):=Bv.out;go_wp2_with (first|(go_at_call 46;refine(wA.out _ fN.out).mono ?_;rintro e w9 ⟨rfl,jk⟩;have se:Hid (Bel w w9):=ah fN.out jk;have m2:=(sd.out.later jk).get 2 _ rfl;have ml:=(sd.out.later jk).own.lt)|(go_at_call 99;refine(yk.out 5 _ fN.out).mono ?_;rintro e w8 ⟨rfl,rfl⟩))
    go_ret;exact Or.inl ⟨by rw[ib.out];decide,by rw[ib.out];rfl,fN.out⟩
   have Ph:=uh (fun (X:World) (hX:Bel w X)=>Bj.out rfl X hX x.ws (.slice ta m tc) (by have q:=HTR.out.later hX;rw[N1.out];exact q) Qk.out);obtain⟨ft,hft⟩:∃ ft,ft=Pl.im l key x.ws:=⟨_,rfl⟩
   rw[← hft]at Ph Bv;clear hft;have wA:=Ph;cases ft
   ·have ib:Hid (adC l ky x ag=7):=Bv.out;go_wp2_with (first|(go_at_call 46;refine(wA.out _ fN.out).mono ?_;rintro e w9 ⟨rfl,jk⟩;have se:Hid (Bel w w9):=ah fN.out jk;have m2:=(sd.out.later jk).get 2 _ rfl;have ml:=(sd.out.later jk).own.lt)|(go_at_call 99;refine(yk.out 7 _ se.out).mono ?_;rintro e w8 ⟨rfl,rfl⟩))
    go_ret;exact Or.inl ⟨by rw[ib.out];decide,by rw[ib.out];rfl,se.out⟩
   have Fe:Hid (adC l ky x ag=if (ag||(decide (0<ky)&& !mn))=true then 6 else if ky=10 then 10 else 0):=Bv.out;cases ag
   rotate_left
   ·have ib:Hid (adC l ky x true=6):=by show _=_;rw[Fe.out];rfl
    go_wp2_with (first|(go_at_call 46;refine(wA.out _ fN.out).mono ?_;rintro e w9 ⟨rfl,jk⟩;have se:Hid (Bel w w9):=ah fN.out jk;have m2:=(sd.out.later jk).get 2 _ rfl;have ml:=(sd.out.later jk).own.lt)|(go_at_call 99;refine(yk.out 6 _ se.out).mono ?_;rintro e w8 ⟨rfl,rfl⟩))
    go_ret;exact Or.inl ⟨by rw[ib.out];decide,by rw[ib.out];rfl,se.out⟩
   by_cases hh0:0<ky
   ·have d1:(0:Int)<(ky:Int):=by omega
    cases mn
    ·have ib:Hid (adC l ky x false=6):=by show _=_;rw[Fe.out];simp[hh0]
     go_wp2_with (first|(go_at_call 46;refine(wA.out _ fN.out).mono ?_;rintro e w9 ⟨rfl,jk⟩;have se:Hid (Bel w w9):=ah fN.out jk;have m2:=(sd.out.later jk).get 2 _ rfl;have ml:=(sd.out.later jk).own.lt)|(go_at_call 99;refine(yk.out 6 _ se.out).mono ?_;rintro e w8 ⟨rfl,rfl⟩))
     go_ret;exact Or.inl ⟨by rw[ib.out];decide,by rw[ib.out];rfl,se.out⟩
    ·by_cases Hp:ky=10
     ·have ib:Hid (adC l ky x false=10):=by show _=_;rw[Fe.out];simp[Hp]
      have d2:((ky:Int)==10)=true:=by simp;omega
      go_wp2_with (first|(go_at_call 46;refine(wA.out _ fN.out).mono ?_;rintro e w9 ⟨rfl,jk⟩;have se:Hid (Bel w w9):=ah fN.out jk;have m2:=(sd.out.later jk).get 2 _ rfl;have ml:=(sd.out.later jk).own.lt)|(go_at_call 99;refine(yk.out 10 _ se.out).mono ?_;rintro e w8 ⟨rfl,rfl⟩))
      go_ret;exact Or.inl ⟨by rw[ib.out];decide,by rw[ib.out];rfl,se.out⟩
     ·have ib:Hid (adC l ky x false=0):=by show _=_;rw[Fe.out];simp[Hp]
      have d2:((ky:Int)==10)=false:=by simp;omega
      go_upto_region 17 with(go_at_call 46;refine(wA.out _ fN.out).mono ?_;rintro e w9 ⟨rfl,jk⟩;have se:=uh jk;have m2:=(sd.out.later jk).get 2 _ rfl;have ml:=(sd.out.later jk).own.lt)
      clear m2 ml;obtain⟨wo,FJ⟩:∃ wo,wo=w9:=⟨_,rfl⟩
      rw[← FJ]at se ⊢;clear FJ f0 f1 f2 f3 fl k1_ kl;have qt:Hid (Bel w wo):=ah fN.out se.out;have LO:=uh (tX.out.later se.out);obtain⟨wp_,Og⟩:∃ wp_,wp_=wq:=⟨_,rfl⟩
      clear Og wp_;replace fg:Hid (wo.rangeAt g (pl*3) [.string kind,.string name,.slice l1 ln lq]):=aB EX.out qR.out qt.out
      replace fB:Hid (g<wo.heap.size):=zL qR.out qt.out.size
      have yo:Hid (wo.ownsRow (rb+1) 41 3 (.slice (some ⟨g,0,none⟩) n q) n (ca++[.string kind,.string name,.slice l1 ln lq]++cb)):=bK Jz.out (Frm.aG (S:=fun _=>False) qt.out) (fun _ _ h=>h);have x7:Hid (wo.ownsRow (rb+1) 46 2 (.slice l1 ln lq) ln cl):=bK JM.out (Frm.aG (S:=fun _=>False) qt.out) (fun _ _ h=>h);have I2:Hid (∀ gg,l1=some ⟨gg,0,none⟩→gg<wo.heap.size):=fun gg hg=>by
       obtain⟨_,cur,yz⟩:=cC x7.out (g:=gg) (by rw[hg];rfl);exact dN yz
      have lM:Hid (rb+1≤wo.heap.size):=Nat.le_trans (cC yo.out (g:=g) rfl).1 (Nat.le_of_lt fB.out);replace tX:=LO
      replace fN:=qt
      refine RY.mw wo zR (AB g pl ln lq pi m tc wo.heap.size l1 ta key) (rW _ _ _ _ _ _ _ _ _ _ _) [0,9,10] (fun j u=>AB g pl ln lq pi m tc wo.heap.size l1 ta key j u wo) (by intro j hj u W;simp only[List.mem_cons,List.not_mem_nil,or_false]at hj;rcases hj with rfl|rfl|rfl<;>exact Iff.rfl) (fun u W'=>∃ g' q',u=.slice (some ⟨g',0,none⟩) (ln+1) q'∧W'.ownsRow (rb+1) 46 2 (.slice (some ⟨g',0,none⟩) (ln+1) q') (ln+1) (cl.take (pi*2)++[.string key,.slice ta m tc]++cl.drop (pi*2))∧Frm (fun b=>(Value.slice l1 ln lq).ownBlock=some b) wo W'∧(l1=some ⟨g',0,none⟩∨wo.heap.size≤g')) (fun W'=>∃ g' q',W'.ownsRow (rb+1) 41 3 (.slice (some ⟨g,0,none⟩) n q) n (ca++[.string kind,.string name,.slice (some ⟨g',0,none⟩) (ln+1) q']++cb)∧W'.ownsRow (rb+1) 46 2 (.slice (some ⟨g',0,none⟩) (ln+1) q') (ln+1) (cl.take (pi*2)++[.string key,.slice ta m tc]++cl.drop (pi*2))∧Frm (fun b=>b=g∨(Value.slice l1 ln lq).ownBlock=some b) wo W'∧(l1=some ⟨g',0,none⟩∨wo.heap.size≤g')) 11 8 12 (by decide) (by kernel_rfl) (by kernel_rfl) (by kernel_rfl) (by kernel_rfl) rfl [8,10] (by kernel_rfl) (by kernel_rfl) [4,5,7] (by kernel_rfl) (by kernel_rfl) (by kernel_rfl) _ _ rfl rfl rfl (by kernel_rfl) ?_ ?_ ?_ (by decide) ?_
      ·intro ii o' ho E2 zB a X qf hk hd;match ii,ho with
       |0,rfl=>
        exact Or.inl ⟨.pointer (some ⟨g,pl*3,none⟩),X,by simp[execOp,go_sem,RY.K hk 3 (.pointer (some ⟨g,pl*3,none⟩))],(fun _=>rfl),zR,rfl⟩
       |1,rfl=>
        have hX:=qf (by decide);exact Or.inl ⟨.pointer (some ⟨g,pl*3,none⟩),X,by simp[execOp,go_sem,RY.K hk 3 (.pointer (some ⟨g,pl*3,none⟩))],(fun _=>rfl),zR,rfl⟩
       |2,rfl=>
        have hX:=qf (by decide);have e107:a.tmps[107]?.getD undef=.pointer (some ⟨g,pl*3,none⟩):=(RY.af a 107).trans (hd 1 _ 107 rfl rfl ⟨⟨1,.data⟩,by simp,rfl,rfl⟩ (by decide) (by decide) (by decide));exact Or.inl ⟨.pointer (some ⟨g,pl*3,none⟩),X,by simp[execOp,go_sem,e107],(fun _=>rfl),zR,rfl⟩
       |3,rfl=>
        have hX:=qf (by decide);have e108:a.tmps[108]?.getD undef=.pointer (some ⟨g,pl*3,none⟩):=(RY.af a 108).trans (hd 2 _ 108 rfl rfl ⟨⟨2,.data⟩,by simp,rfl,rfl⟩ (by decide) (by decide) (by decide));exact Or.inl ⟨.pointer (some ⟨g,pl*3+2,none⟩),X,by simp[execOp,go_sem,e108],(fun _=>rfl),zR,rfl⟩
       |4,rfl=>
        have hX:=qf (by decide);have zq5:=tX.out.later hX;have zq5l:=zq5.own.lt;have e109:a.tmps[109]?.getD undef=.pointer (some ⟨g,pl*3+2,none⟩):=(RY.af a 109).trans (hd 3 _ 109 rfl rfl ⟨⟨3,.data⟩,by simp,rfl,rfl⟩ (by decide) (by decide) (by decide));have ypl_:=zL fB.out hX.size;have ycl_:X.cell? ⟨g,pl*3+2,none⟩=some (.slice l1 ln lq):=by have q:=aE (aB fg.out fB.out hX) 2 _ rfl;simpa using q
        exact Or.inl ⟨.slice l1 ln lq,X,by simp[execOp,go_sem,e109,ycl_],(fun _=>rfl),zR,rfl⟩
       |5,rfl=>
        have hX:=qf (by decide);exact Or.inl ⟨.int .i64 (pi:Int),X,by simp[execOp,go_sem,RY.K hk 9 (.int .i64 (pi:Int))],(fun _=>rfl),zR,rfl⟩
       |6,rfl=>
        have hX:=qf (by decide);have zq5:=tX.out.later hX;have zq5l:=zq5.own.lt;have v5:a.eval (.tmp 5)=.pointer (some ⟨q5,0,none⟩):=(hk 5 (by kernel_rfl)).trans rfl;exact Or.inl ⟨_,X,ar 46 _ rfl q5 0 v5 [.string key,.slice ta m tc] _ zq5.at_ Tryz.underlying46 rfl (by kernel_rfl),(fun _=>rfl),zR,rfl⟩
       |7,rfl=>
        have hX:=qf (by decide);have zq5:=tX.out.later hX;have zq5l:=zq5.own.lt;have e112:a.tmps[112]?.getD undef=.agg #[.string key,.slice ta m tc]:=(RY.af a 112).trans (hd 6 _ 112 rfl rfl ⟨⟨6,.data⟩,by simp,rfl,rfl⟩ (by decide) (by decide) (by decide));exact Or.inl ⟨.slice (some ⟨X.heap.size,0,none⟩) 1 1,X.alloc (.cells #[.string key,.slice ta m tc] 46),by simp[execOp,go_sem,e112],(fun h=>absurd h (by decide)),ae zR _,X.heap.size,rfl,yO X wo.heap.size _ _ hX.size⟩
       |8,ho=>
        exact absurd rfl zB
       |9,rfl=>
        have e106:a.tmps[106]?.getD undef=.pointer (some ⟨g,pl*3,none⟩):=(RY.af a 106).trans (hd 0 _ 106 rfl rfl ⟨⟨0,.data⟩,by simp,rfl,rfl⟩ (by decide) (by decide) (by decide));exact Or.inl ⟨.pointer (some ⟨g,pl*3,none⟩),X,by simp[execOp,go_sem,e106],(fun _=>rfl),zR,rfl⟩
       |10,rfl=>
        have e115:a.tmps[115]?.getD undef=.pointer (some ⟨g,pl*3,none⟩):=(RY.af a 115).trans (hd 9 _ 115 rfl rfl ⟨⟨9,.data⟩,by simp,rfl,rfl⟩ (by decide) (by decide) (by decide));exact Or.inl ⟨.pointer (some ⟨g,pl*3+2,none⟩),X,by simp[execOp,go_sem,e115],(fun _=>rfl),zR,rfl⟩
       |n+11,ho=>omega
      ·intro a X hX hk hd;have e110:a.tmps[110]?.getD undef=.slice l1 ln lq:=(RY.af a 110).trans (hd 4 _ 110 rfl rfl ⟨⟨4,.data⟩,by simp,rfl,rfl⟩ (by decide) (by decide));have e111:a.tmps[111]?.getD undef=.int .i64 (pi:Int):=(RY.af a 111).trans (hd 5 _ 111 rfl rfl ⟨⟨5,.data⟩,by simp,rfl,rfl⟩ (by decide) (by decide));obtain⟨g113,q113,EL⟩:=hd 7 _ 113 rfl rfl ⟨⟨7,.data⟩,by simp,rfl,rfl⟩ (by decide) (by decide);have e113:a.tmps[113]?.getD undef=.slice (some ⟨g113,0,none⟩) 1 1:=(RY.af a 113).trans q113;refine⟨104,#[.slice l1 ln lq,.int .i64 (pi:Int),.slice (some ⟨g113,0,none⟩) 1 1],by simp[go_sem,e110,e111,e113],(CL (rb+1) X l1 ln lq cl [.string key,.slice ta m tc] 1 (bK x7.out (Frm.aG (S:=fun _=>False) hX) (fun _ _ h=>h)) wo.heap.size (.slice (some ⟨g113,0,none⟩) 1 1) mO.out (by simp[Value.oneCell']) EL (by decide) (fun gg hg=>I2.out gg hg) pi M3.out (by have:=je.out;omega) (Nat.le_trans lM.out hX.size)).mono ?_⟩;rintro e W' ⟨g',q',rfl,h1,h2,h3⟩;exact⟨_,rfl,g',q',rfl,h1,((Frm.aG hX).trans (h2.frm.mono (fun b ⟨gg,e1,e2⟩=>by rw[e1,e2];rfl))),h3.imp id (fun h=>Nat.le_trans hX.size h)⟩
      ·intro a X vals Bh hk Ip hd;obtain⟨g',q',e1,h1,h2,h3⟩:=Bh;have e114:a.eval (.tmp 114)=_:=(hd 8 _ 114 rfl rfl ⟨⟨8,.data⟩,by simp,rfl,rfl⟩ (by decide)).trans e1;have e116:a.eval (.tmp 116)=.pointer (some ⟨g,pl*3+2,none⟩):=(hd 10 _ 116 rfl rfl ⟨⟨10,.data⟩,by simp,rfl,rfl⟩ (by decide)).trans (Ip 10 (by decide));have hb:=bK yo.out h2 (fun gg wW e=>gv yo.out x7.out (by decide) wW e);obtain⟨hc,hl,hf⟩:=rK hb (j:=pl*3+2) (by have:=OU.out;omega);have e114':a.tmps[114]?.getD undef=_:=(RY.af a 114).trans e114;have e116':a.tmps[116]?.getD undef=_:=(RY.af a 116).trans e116;obtain⟨old,hc⟩:=hc;refine⟨X.setCell ⟨g,pl*3+2,none⟩ (.slice (some ⟨g',0,none⟩) (ln+1) q'),by simp[execOp,go_sem,e114',e116',hc,hf],g',q', ?_, ?_, ?_,h3⟩
       ·have hs:=uO hb (pl*3+2) (.slice (some ⟨g',0,none⟩) (ln+1) q');rw[uG _ _ _ _ _ _ P3.out]at hs;exact hs
       ·exact bK h1 ((Marks.sc (S:=fun b=>b=g) X rfl (pl*3+2) _).frm (fun _ h=>h)) (fun gg wW e=>gv h1 hb (by decide) wW (by rw[e];rfl))
       ·exact(h2.mono (fun _ h=>Or.inr h)).trans ((Marks.sc (S:=fun b=>b=g) X rfl (pl*3+2) _).frm (fun _ h=>Or.inl h))
      ·intro vs X Hi;simp only[RY.aC,Act.put,List.setIfInBounds_toArray,List.set_cons_zero,List.set_cons_succ];generalize vs 106=s106,vs 107=s107,vs 108=s108,vs 109=s109,vs 110=s110,vs 111=s111,vs 112=s112,vs 113=s113,vs 114=s114,vs 115=s115,vs 116=s116;obtain⟨g',q',BR,oG,qh,qV⟩:=Hi;have KW:Hid (l1=some ⟨g',0,none⟩∨w.heap.size≤g'):=qV.imp id (fun h=>Nat.le_trans fN.out.size h);have nP:=uh (And.intro BR (And.intro oG qh));clear BR oG qh qV;go_wp2;go_ret;refine Or.inr ⟨ib.out,rfl,g',q',nP.out.1,nP.out.2.1,(Frm.aG fN.out).trans nP.out.2.2,KW.out⟩
   ·have d1:¬ ((0:Int)<(ky:Int)):=by omega
    have ib:Hid (adC l ky x false=0):=by show _=_;rw[Fe.out];simp[hh0];omega
    have d2:((ky:Int)==10)=false:=by simp;omega
    go_upto_region 17 with(go_at_call 46;refine(wA.out _ fN.out).mono ?_;rintro e w9 ⟨rfl,jk⟩;have se:=uh jk;have m2:=(sd.out.later jk).get 2 _ rfl;have ml:=(sd.out.later jk).own.lt)
    clear m2 ml;obtain⟨wo,FJ⟩:∃ wo,wo=w9:=⟨_,rfl⟩
    rw[← FJ]at se ⊢;clear FJ f0 f1 f2 f3 fl k1_ kl;have qt:Hid (Bel w wo):=ah fN.out se.out;have LO:=uh (tX.out.later se.out);obtain⟨wp_,Og⟩:∃ wp_,wp_=wq:=⟨_,rfl⟩
    clear Og wp_;replace fg:Hid (wo.rangeAt g (pl*3) [.string kind,.string name,.slice l1 ln lq]):=aB EX.out qR.out qt.out
    replace fB:Hid (g<wo.heap.size):=zL qR.out qt.out.size
    have yo:Hid (wo.ownsRow (rb+1) 41 3 (.slice (some ⟨g,0,none⟩) n q) n (ca++[.string kind,.string name,.slice l1 ln lq]++cb)):=bK Jz.out (Frm.aG (S:=fun _=>False) qt.out) (fun _ _ h=>h);have x7:Hid (wo.ownsRow (rb+1) 46 2 (.slice l1 ln lq) ln cl):=bK JM.out (Frm.aG (S:=fun _=>False) qt.out) (fun _ _ h=>h);have I2:Hid (∀ gg,l1=some ⟨gg,0,none⟩→gg<wo.heap.size):=fun gg hg=>by
     obtain⟨_,cur,yz⟩:=cC x7.out (g:=gg) (by rw[hg];rfl);exact dN yz
    have lM:Hid (rb+1≤wo.heap.size):=Nat.le_trans (cC yo.out (g:=g) rfl).1 (Nat.le_of_lt fB.out);replace tX:=LO
    replace fN:=qt
    refine RY.mw wo zR (AB g pl ln lq pi m tc wo.heap.size l1 ta key) (rW _ _ _ _ _ _ _ _ _ _ _) [0,9,10] (fun j u=>AB g pl ln lq pi m tc wo.heap.size l1 ta key j u wo) (by intro j hj u W;simp only[List.mem_cons,List.not_mem_nil,or_false]at hj;rcases hj with rfl|rfl|rfl<;>exact Iff.rfl) (fun u W'=>∃ g' q',u=.slice (some ⟨g',0,none⟩) (ln+1) q'∧W'.ownsRow (rb+1) 46 2 (.slice (some ⟨g',0,none⟩) (ln+1) q') (ln+1) (cl.take (pi*2)++[.string key,.slice ta m tc]++cl.drop (pi*2))∧Frm (fun b=>(Value.slice l1 ln lq).ownBlock=some b) wo W'∧(l1=some ⟨g',0,none⟩∨wo.heap.size≤g')) (fun W'=>∃ g' q',W'.ownsRow (rb+1) 41 3 (.slice (some ⟨g,0,none⟩) n q) n (ca++[.string kind,.string name,.slice (some ⟨g',0,none⟩) (ln+1) q']++cb)∧W'.ownsRow (rb+1) 46 2 (.slice (some ⟨g',0,none⟩) (ln+1) q') (ln+1) (cl.take (pi*2)++[.string key,.slice ta m tc]++cl.drop (pi*2))∧Frm (fun b=>b=g∨(Value.slice l1 ln lq).ownBlock=some b) wo W'∧(l1=some ⟨g',0,none⟩∨wo.heap.size≤g')) 11 8 12 (by decide) (by kernel_rfl) (by kernel_rfl) (by kernel_rfl) (by kernel_rfl) rfl [8,10] (by kernel_rfl) (by kernel_rfl) [4,5,7] (by kernel_rfl) (by kernel_rfl) (by kernel_rfl) _ _ rfl rfl rfl (by kernel_rfl) ?_ ?_ ?_ (by decide) ?_
    ·intro ii o' ho E2 zB a X qf hk hd;match ii,ho with
     |0,rfl=>
      exact Or.inl ⟨.pointer (some ⟨g,pl*3,none⟩),X,by simp[execOp,go_sem,RY.K hk 3 (.pointer (some ⟨g,pl*3,none⟩))],(fun _=>rfl),zR,rfl⟩
     |1,rfl=>
      have hX:=qf (by decide);exact Or.inl ⟨.pointer (some ⟨g,pl*3,none⟩),X,by simp[execOp,go_sem,RY.K hk 3 (.pointer (some ⟨g,pl*3,none⟩))],(fun _=>rfl),zR,rfl⟩
     |2,rfl=>
      have hX:=qf (by decide);have e107:a.tmps[107]?.getD undef=.pointer (some ⟨g,pl*3,none⟩):=(RY.af a 107).trans (hd 1 _ 107 rfl rfl ⟨⟨1,.data⟩,by simp,rfl,rfl⟩ (by decide) (by decide) (by decide));exact Or.inl ⟨.pointer (some ⟨g,pl*3,none⟩),X,by simp[execOp,go_sem,e107],(fun _=>rfl),zR,rfl⟩
     |3,rfl=>
      have hX:=qf (by decide);have e108:a.tmps[108]?.getD undef=.pointer (some ⟨g,pl*3,none⟩):=(RY.af a 108).trans (hd 2 _ 108 rfl rfl ⟨⟨2,.data⟩,by simp,rfl,rfl⟩ (by decide) (by decide) (by decide));exact Or.inl ⟨.pointer (some ⟨g,pl*3+2,none⟩),X,by simp[execOp,go_sem,e108],(fun _=>rfl),zR,rfl⟩
     |4,rfl=>
      have hX:=qf (by decide);have zq5:=tX.out.later hX;have zq5l:=zq5.own.lt;have e109:a.tmps[109]?.getD undef=.pointer (some ⟨g,pl*3+2,none⟩):=(RY.af a 109).trans (hd 3 _ 109 rfl rfl ⟨⟨3,.data⟩,by simp,rfl,rfl⟩ (by decide) (by decide) (by decide));have ypl_:=zL fB.out hX.size;have ycl_:X.cell? ⟨g,pl*3+2,none⟩=some (.slice l1 ln lq):=by have q:=aE (aB fg.out fB.out hX) 2 _ rfl;simpa using q
      exact Or.inl ⟨.slice l1 ln lq,X,by simp[execOp,go_sem,e109,ycl_],(fun _=>rfl),zR,rfl⟩
     |5,rfl=>
      have hX:=qf (by decide);exact Or.inl ⟨.int .i64 (pi:Int),X,by simp[execOp,go_sem,RY.K hk 9 (.int .i64 (pi:Int))],(fun _=>rfl),zR,rfl⟩
     |6,rfl=>
      have hX:=qf (by decide);have zq5:=tX.out.later hX;have zq5l:=zq5.own.lt;have v5:a.eval (.tmp 5)=.pointer (some ⟨q5,0,none⟩):=(hk 5 (by kernel_rfl)).trans rfl;exact Or.inl ⟨_,X,ar 46 _ rfl q5 0 v5 [.string key,.slice ta m tc] _ zq5.at_ Tryz.underlying46 rfl (by kernel_rfl),(fun _=>rfl),zR,rfl⟩
     |7,rfl=>
      have hX:=qf (by decide);have zq5:=tX.out.later hX;have zq5l:=zq5.own.lt;have e112:a.tmps[112]?.getD undef=.agg #[.string key,.slice ta m tc]:=(RY.af a 112).trans (hd 6 _ 112 rfl rfl ⟨⟨6,.data⟩,by simp,rfl,rfl⟩ (by decide) (by decide) (by decide));exact Or.inl ⟨.slice (some ⟨X.heap.size,0,none⟩) 1 1,X.alloc (.cells #[.string key,.slice ta m tc] 46),by simp[execOp,go_sem,e112],(fun h=>absurd h (by decide)),ae zR _,X.heap.size,rfl,yO X wo.heap.size _ _ hX.size⟩
     |8,ho=>
      exact absurd rfl zB
     |9,rfl=>
      have e106:a.tmps[106]?.getD undef=.pointer (some ⟨g,pl*3,none⟩):=(RY.af a 106).trans (hd 0 _ 106 rfl rfl ⟨⟨0,.data⟩,by simp,rfl,rfl⟩ (by decide) (by decide) (by decide));exact Or.inl ⟨.pointer (some ⟨g,pl*3,none⟩),X,by simp[execOp,go_sem,e106],(fun _=>rfl),zR,rfl⟩
     |10,rfl=>
      have e115:a.tmps[115]?.getD undef=.pointer (some ⟨g,pl*3,none⟩):=(RY.af a 115).trans (hd 9 _ 115 rfl rfl ⟨⟨9,.data⟩,by simp,rfl,rfl⟩ (by decide) (by decide) (by decide));exact Or.inl ⟨.pointer (some ⟨g,pl*3+2,none⟩),X,by simp[execOp,go_sem,e115],(fun _=>rfl),zR,rfl⟩
     |n+11,ho=>omega
    ·intro a X hX hk hd;have e110:a.tmps[110]?.getD undef=.slice l1 ln lq:=(RY.af a 110).trans (hd 4 _ 110 rfl rfl ⟨⟨4,.data⟩,by simp,rfl,rfl⟩ (by decide) (by decide));have e111:a.tmps[111]?.getD undef=.int .i64 (pi:Int):=(RY.af a 111).trans (hd 5 _ 111 rfl rfl ⟨⟨5,.data⟩,by simp,rfl,rfl⟩ (by decide) (by decide));obtain⟨g113,q113,EL⟩:=hd 7 _ 113 rfl rfl ⟨⟨7,.data⟩,by simp,rfl,rfl⟩ (by decide) (by decide);have e113:a.tmps[113]?.getD undef=.slice (some ⟨g113,0,none⟩) 1 1:=(RY.af a 113).trans q113;refine⟨104,#[.slice l1 ln lq,.int .i64 (pi:Int),.slice (some ⟨g113,0,none⟩) 1 1],by simp[go_sem,e110,e111,e113],(CL (rb+1) X l1 ln lq cl [.string key,.slice ta m tc] 1 (bK x7.out (Frm.aG (S:=fun _=>False) hX) (fun _ _ h=>h)) wo.heap.size (.slice (some ⟨g113,0,none⟩) 1 1) mO.out (by simp[Value.oneCell']) EL (by decide) (fun gg hg=>I2.out gg hg) pi M3.out (by have:=je.out;omega) (Nat.le_trans lM.out hX.size)).mono ?_⟩;rintro e W' ⟨g',q',rfl,h1,h2,h3⟩;exact⟨_,rfl,g',q',rfl,h1,((Frm.aG hX).trans (h2.frm.mono (fun b ⟨gg,e1,e2⟩=>by rw[e1,e2];rfl))),h3.imp id (fun h=>Nat.le_trans hX.size h)⟩
    ·intro a X vals Bh hk Ip hd;obtain⟨g',q',e1,h1,h2,h3⟩:=Bh;have e114:a.eval (.tmp 114)=_:=(hd 8 _ 114 rfl rfl ⟨⟨8,.data⟩,by simp,rfl,rfl⟩ (by decide)).trans e1;have e116:a.eval (.tmp 116)=.pointer (some ⟨g,pl*3+2,none⟩):=(hd 10 _ 116 rfl rfl ⟨⟨10,.data⟩,by simp,rfl,rfl⟩ (by decide)).trans (Ip 10 (by decide));have hb:=bK yo.out h2 (fun gg wW e=>gv yo.out x7.out (by decide) wW e);obtain⟨hc,hl,hf⟩:=rK hb (j:=pl*3+2) (by have:=OU.out;omega);have e114':a.tmps[114]?.getD undef=_:=(RY.af a 114).trans e114;have e116':a.tmps[116]?.getD undef=_:=(RY.af a 116).trans e116;obtain⟨old,hc⟩:=hc;refine⟨X.setCell ⟨g,pl*3+2,none⟩ (.slice (some ⟨g',0,none⟩) (ln+1) q'),by simp[execOp,go_sem,e114',e116',hc,hf],g',q', ?_, ?_, ?_,h3⟩
     ·have hs:=uO hb (pl*3+2) (.slice (some ⟨g',0,none⟩) (ln+1) q');rw[uG _ _ _ _ _ _ P3.out]at hs;exact hs
     ·exact bK h1 ((Marks.sc (S:=fun b=>b=g) X rfl (pl*3+2) _).frm (fun _ h=>h)) (fun gg wW e=>gv h1 hb (by decide) wW (by rw[e];rfl))
     ·exact(h2.mono (fun _ h=>Or.inr h)).trans ((Marks.sc (S:=fun b=>b=g) X rfl (pl*3+2) _).frm (fun _ h=>Or.inl h))
    ·intro vs X Hi;simp only[RY.aC,Act.put,List.setIfInBounds_toArray,List.set_cons_zero,List.set_cons_succ];generalize vs 106=s106,vs 107=s107,vs 108=s108,vs 109=s109,vs 110=s110,vs 111=s111,vs 112=s112,vs 113=s113,vs 114=s114,vs 115=s115,vs 116=s116;obtain⟨g',q',BR,oG,qh,qV⟩:=Hi;have KW:Hid (l1=some ⟨g',0,none⟩∨w.heap.size≤g'):=qV.imp id (fun h=>Nat.le_trans fN.out.size h);have nP:=uh (And.intro BR (And.intro oG qh));clear BR oG qh qV;go_wp2;go_ret;refine Or.inr ⟨ib.out,rfl,g',q',nP.out.1,nP.out.2.1,(Frm.aG fN.out).trans nP.out.2.2,KW.out⟩
end Go.Proofs.YtopjjknojnfhmaaGreatDoor
