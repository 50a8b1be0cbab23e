import Derived.Deep.AppendLies
import Derived.Lib.AppendStr
import Derived.Test.YtgiglpnaekbegaaGreatDoorEKc
import Derived.Test.YtgiglpnaekbegaaGreatDoorEWe
import Derived.Test.YtgiglpnaekbegaaGreatDoorEOv
import Derived.Test.YtgiglpnaekbegaaGreatDoorEVd
namespace Go.Proofs.YtgiglpnaekbegaaGreatDoor
set_option maxRecDepth 8000
set_option maxHeartbeats 40000000
open Go.RowKit Go.Deep
namespace Pl
def ja (l:List Ln) (x:Ln):Nat:=l.countP fun y=>(y.key.toList==x.key.toList)&&cL y.ws x.ws
theorem yG {l:List Ln} {p:Ln→Bool} {k:Nat} (hk:k<l.length):(l.take (k+1)).countP p=(l.take k).countP p+if p (l.getD k aK) then 1 else 0:=by
 rw[cp aK l k hk,YT,List.countP_singleton]
end Pl
def VKa (b0:Nat) (p:Nat) (o:Nat) (vc:Nat) (k:Nat) (b:Pl.Bl) (x:Pl.Ln) (y:Pl.Ln):Nat→Value→World→Prop
 |0,vv,_=>vv=.pointer (some ⟨b0,2,none⟩)
 |1,vv,_=>vv=.slice (some ⟨p,o,none⟩) b.lines.length vc
 |2,vv,_=>vv=.int .i64 (k:Int)
 |3,vv,_|4,vv,_=>vv=.pointer (some ⟨p,o+k*2,none⟩)
 |5,vv,_=>vv=.string y.key
 |6,vv,_=>vv=.pointer (some ⟨(b0+1),0,none⟩)
 |7,vv,_=>vv=.string x.key
 |8,vv,_=>vv=.bool (y.key.toList==x.key.toList)
 |_,_,_=>True
theorem Gd (b0:Nat) (p:Nat) (o:Nat) (vc:Nat) (k:Nat) (b:Pl.Bl) (x:Pl.Ln) (y:Pl.Ln):∀ jj vv W W',Bel W W'→VKa b0 p o vc k b x y jj vv W→VKa b0 p o vc k b x y jj vv W':=by
 intro jj vv W W' hb h;match jj with
 |0|1|2|3|4|5|6|7|8=>exact h
 |n+9=>exact trivial
def VKb (b0:Nat) (p:Nat) (o:Nat) (vc:Nat) (k:Nat) (b:Pl.Bl) (x:Pl.Ln) (y:Pl.Ln) (wa:Option Addr) (ya:Option Addr) (wc:Nat) (yc:Nat):Nat→Value→World→Prop
 |0,vv,_=>vv=.pointer (some ⟨b0,2,none⟩)
 |1,vv,_=>vv=.slice (some ⟨p,o,none⟩) b.lines.length vc
 |2,vv,_=>vv=.int .i64 (k:Int)
 |3,vv,_=>vv=.pointer (some ⟨p,o+k*2,none⟩)
 |4,vv,_=>vv=.pointer (some ⟨p,o+k*2+1,none⟩)
 |5,vv,_=>vv=.slice ya y.ws.length yc
 |6,vv,_=>vv=.pointer (some ⟨(b0+1),1,none⟩)
 |7,vv,_=>vv=.slice wa x.ws.length wc
 |8,vv,_=>vv=.bool (Pl.cL y.ws x.ws)
 |_,_,_=>True
theorem Hi (b0:Nat) (p:Nat) (o:Nat) (vc:Nat) (k:Nat) (b:Pl.Bl) (x:Pl.Ln) (y:Pl.Ln) (wa:Option Addr) (ya:Option Addr) (wc:Nat) (yc:Nat):∀ jj vv W W',Bel W W'→VKb b0 p o vc k b x y wa ya wc yc jj vv W→VKb b0 p o vc k b x y wa ya wc yc jj vv W':=by
 intro jj vv W W' hb h;match jj with
 |0|1|2|3|4|5|6|7|8=>exact h
 |n+9=>exact trivial
theorem J0 (b:Pl.Bl) (x:Pl.Ln) (lv wv:Value) (w:World) (h:Raw w aV [bD b.lines] [lv]) (hx:Raw w bm [.row x.ws.length (txD x.ws)] [wv]) (hl:b.lines.length≤4194304):
  Calls Tryz.prog 41 #[.agg #[.string b.kind,.string b.name,lv],.agg #[.string x.key,wv]] w fun e w'=>e=.returned (.tuple #[.int .i64 (Pl.aR b.lines x.key:Nat),.int .i64 (Pl.ja b.lines x:Nat)])∧Bel w w':=by
 have HL:=uh h;have HX:=uh hx;obtain⟨va,vc,ev⟩:=h.aT;subst ev;obtain⟨wa,wc,ev⟩:=hx.aT;subst ev;clear h hx;obtain⟨w0,iQ⟩:∃ w0,w0=(w.alloc (.cells #[.string b.kind,.string b.name,.slice va b.lines.length vc] 58)).alloc (.cells #[.string x.key,.slice wa x.ws.length wc] 41):=⟨_,rfl⟩
 obtain⟨b0,aU⟩:∃ b0,b0=w.heap.size:=⟨_,rfl⟩
 have HB:Hid (Bel w w0):=by show Below _ _ _;rw[iQ];exact af (af zR _) _
 have eD:Hid (au w0 b0 [.string b.kind,.string b.name,.slice va b.lines.length vc]):=by show au _ _ _;rw[iQ,aU];exact(au.new w #[.string b.kind,.string b.name,.slice va b.lines.length vc] _ _ rfl).eO _
 have Lj:Hid (au w0 (b0+1) [.string x.key,.slice wa x.ws.length wc]):=by show au _ _ _;rw[iQ,aU];exact au.new (w.alloc (.cells #[.string b.kind,.string b.name,.slice va b.lines.length vc] 58)) #[.string x.key,.slice wa x.ws.length wc] _ _ (by simp)
 go_enter Tryz.func41,Tryz.ntmps41
 go_upto_region 1 with fail
 rw[← iQ,← aU];clear iQ aU;have HU0:=eD;have HO0:=Lj;have dX:=HB;go_wp2;go_loopw [6,7,8] (fun v1 v2 vi wr=>∃ (k c1 c2:Nat),k≤b.lines.length∧v1=.int .i64 c1∧v2=.int .i64 c2∧vi=.int .i64 k∧c1=Pl.aR (b.lines.take k) x.key∧c2=(b.lines.take k).countP (fun y=>(y.key.toList==x.key.toList)&&Pl.cL y.ws x.ws)∧Bel w0 wr) (fun _ _ vi _=>b.lines.length - (intOf vi).toNat)
 case atStart=>exact⟨0,0,0,zN,rfl,rfl,rfl,rfl,rfl,zR⟩
 case round=>
  obtain⟨k,c1,c2,hk,rfl,rfl,rfl,h1,h2,hB⟩:=hrel;replace eD:=uh (HU0.out.later hB)
  replace Lj:=uh (HO0.out.later hB)
  replace HB:=uh hB
  have AV:c1≤b.lines.length:=by rw[h1];have:=Yd (p:=fun y=>Pl.eZ y.key x.key) (l:=b.lines.take k);rw[Xo]at this;unfold Pl.aR;omega
  have B9:c2≤b.lines.length:=by rw[h2];have:=Yd (p:=fun y:Pl.Ln=>(y.key.toList==x.key.toList)&&Pl.cL y.ws x.ws) (l:=b.lines.take k);rw[Xo]at this;omega
  have jL:=uh h1;have sP:=uh h2;clear hB h1 h2;have x2:=eD.out.get 2 _ rfl;have xl:=eD.out.lt;by_cases bq:k<b.lines.length
  rotate_left
  ·have jq:b.lines.take k=b.lines:=Xp (by omega);rw[jq]at jL sP;obtain rfl:k=b.lines.length:=by omega
   have tB:¬ ((b.lines.length:Int)<(b.lines.length:Int)):=by omega
   have MI:Hid (Pl.aR b.lines x.key=c1∧Pl.ja b.lines x=c2):=⟨jL.out.symm,sP.out.symm⟩
   go_wp2;go_ret2;rw[MI.out.1,MI.out.2];exact⟨rfl,ae dX.out HB.out⟩
  rcases bO ((HL.out.later dX.out).later HB.out) with⟨e0,_⟩|⟨p,o,c,hv,hp,dR,aE⟩
  ·omega
  injection hv with g1 g2 g3
  subst g1;subst g3;obtain⟨ya,yc,dm,dH⟩:=aE k bq;have Bc:Hid (Pl.aR (b.lines.take (k+1)) x.key=c1+if Pl.eZ (b.lines.getD k Pl.aK).key x.key then 1 else 0):=by show _=_;rw[jL.out];exact Pl.yG bq
  have y6:Hid (((b.lines.take (k+1)).countP fun y=>(y.key.toList==x.key.toList)&&Pl.cL y.ws x.ws)=c2+if ((b.lines.getD k Pl.aK).key.toList==x.key.toList)&&Pl.cL (b.lines.getD k Pl.aK).ws x.ws then 1 else 0):=by show _=_;rw[sP.out];exact Pl.yG bq
  obtain⟨y,hy⟩:∃ y,y=b.lines.getD k Pl.aK:=⟨_,rfl⟩
  rw[← hy]at dm dH Bc y6;have Js:=uh (fun (X:World) (hX:Bel wr X)=>uz y.ws x.ws (.slice ya y.ws.length yc) (.slice wa x.ws.length wc) X (dH.later hX) (((HX.out.later dX.out).later HB.out).later hX));have cU:=uh dm;have de:=uh hp;have cZ:(0:Int)≤(k:Int):=by omega
  have dy:(k:Int)<(b.lines.length:Int):=by omega
  clear hy dm dH hp dR aE jL sP;go_upto_region 6 with fail
  clear x2 xl;refine RY.bs wr zR (VKa b0 p o vc k b x y) (Gd _ _ _ _ _ _ _ _) (by kernel_rfl) (by kernel_rfl) (by kernel_rfl) (by kernel_rfl) ?_ ?_
  ·intro ii o' ho a X hX hk hd;have zb0:=eD.out.later hX;have zb0l:=zb0.lt;have z_b0___1_:=Lj.out.later hX;have z_b0___1_l:=z_b0___1_.lt;match ii,ho with
   |0,rfl=>
    exact RY.p (.pointer (some ⟨b0,2,none⟩)) (by simp[execOp,go_sem,RY.K hk 2 (.pointer (some ⟨b0,0,none⟩))])
   |1,rfl=>
    have e16:=RY.E hd 0 16;have ycl_:=zb0.get 2 _ rfl;exact RY.p (.slice (some ⟨p,o,none⟩) b.lines.length vc) (by simp[execOp,go_sem,e16,ycl_])
   |2,rfl=>
    exact RY.p (.int .i64 (k:Int)) (by simp[execOp,go_sem,RY.K hk 8 (.int .i64 (k:Int))])
   |3,rfl=>
    exact RY.p (.pointer (some ⟨p,o+k*2,none⟩)) (by simp[execOp,go_sem,RY.E hd 1 17,RY.E hd 2 18,cZ,dy])
   |4,rfl=>
    exact RY.p (.pointer (some ⟨p,o+k*2,none⟩)) (by simp[execOp,go_sem,RY.E hd 3 19])
   |5,rfl=>
    have e20:=RY.E hd 4 20;have ypl_:=zL de.out hX.size;have ycl_:X.cell? ⟨p,o+k*2,none⟩=some (.string y.key):=by have q:=aF (aj cU.out de.out hX) 0 _ rfl;simpa using q
    exact RY.p (.string y.key) (by simp[execOp,go_sem,e20,ycl_])
   |6,rfl=>
    exact RY.p (.pointer (some ⟨(b0+1),0,none⟩)) (by simp[execOp,go_sem,RY.K hk 3 (.pointer (some ⟨(b0+1),0,none⟩))])
   |7,rfl=>
    have e22:=RY.E hd 6 22;have ycl_:=z_b0___1_.get 0 _ rfl;exact RY.p (.string x.key) (by simp[execOp,go_sem,e22,ycl_])
   |8,rfl=>
    exact RY.p (.bool (y.key.toList==x.key.toList)) (by simp[execOp,go_sem,RY.E hd 5 21,RY.E hd 7 23])
   |n+9,ho=>simp at ho
  intro X vs hX bn;have q24:vs 24=_:=bn 8 _ 24 rfl rfl;simp only[RY.aC,Act.put,so,As,An];rw[q24];generalize vs 16=s16,vs 17=s17,vs 18=s18,vs 19=s19,vs 20=s20,vs 21=s21,vs 22=s22,vs 23=s23;clear bn q24;replace HB:=uh (ae HB.out hX)
  replace eD:=uh (eD.out.later hX)
  replace Lj:=uh (Lj.out.later hX)
  replace cU:=uh (aj cU.out de.out hX)
  replace de:=uh (zL de.out hX.size)
  replace Js:=uh (fun (Y:World) (hY:Bel X Y)=>Js.out Y (ae hX hY))
  clear hX;cases hq:(y.key.toList==x.key.toList)
  ·have D3:Hid (c1=Pl.aR (b.lines.take (k+1)) x.key):=by show _=_;have LH:Pl.eZ y.key x.key=_:=hq;rw[Bc.out,LH];rfl
   have Mx:Hid (c2=(b.lines.take (k+1)).countP fun y=>(y.key.toList==x.key.toList)&&Pl.cL y.ws x.ws):=by show _=_;rw[y6.out,hq];rfl
   go_wp2;go_roundw
   case rel=>exact⟨k+1,c1,c2,by omega,by go_num,by go_num,by go_num,D3.out,Mx.out,HB.out⟩
   case measure=>simp[intOf];omega
  have D3:Hid (c1+1=Pl.aR (b.lines.take (k+1)) x.key):=by show _=_;have LH:Pl.eZ y.key x.key=_:=hq;rw[Bc.out,LH];rfl
  obtain⟨W1,MA⟩:∃ W1,W1=X:=⟨_,rfl⟩
  rw[← MA]at HB eD Lj cU de Js ⊢;clear MA;go_upto_region 8 with fail
  refine RY.bs W1 zR (VKb b0 p o vc k b x y wa ya wc yc) (Hi _ _ _ _ _ _ _ _ _ _ _ _) (by kernel_rfl) (by kernel_rfl) (by kernel_rfl) (by kernel_rfl) ?_ ?_
  ·intro ii o' ho a X hX hk hd;have zb0:=eD.out.later hX;have zb0l:=zb0.lt;have z_b0___1_:=Lj.out.later hX;have z_b0___1_l:=z_b0___1_.lt;match ii,ho with
   |0,rfl=>
    exact RY.p (.pointer (some ⟨b0,2,none⟩)) (by simp[execOp,go_sem,RY.K hk 2 (.pointer (some ⟨b0,0,none⟩))])
   |1,rfl=>
    have e27:=RY.E hd 0 27;have ycl_:=zb0.get 2 _ rfl;exact RY.p (.slice (some ⟨p,o,none⟩) b.lines.length vc) (by simp[execOp,go_sem,e27,ycl_])
   |2,rfl=>
    exact RY.p (.int .i64 (k:Int)) (by simp[execOp,go_sem,RY.K hk 8 (.int .i64 (k:Int))])
   |3,rfl=>
    exact RY.p (.pointer (some ⟨p,o+k*2,none⟩)) (by simp[execOp,go_sem,RY.E hd 1 28,RY.E hd 2 29,cZ,dy])
   |4,rfl=>
    exact RY.p (.pointer (some ⟨p,o+k*2+1,none⟩)) (by simp[execOp,go_sem,RY.E hd 3 30])
   |5,rfl=>
    have e31:=RY.E hd 4 31;have ypl_:=zL de.out hX.size;have ycl_:X.cell? ⟨p,o+k*2+1,none⟩=some (.slice ya y.ws.length yc):=by have q:=aF (aj cU.out de.out hX) 1 _ rfl;simpa using q
    exact RY.p (.slice ya y.ws.length yc) (by simp[execOp,go_sem,e31,ycl_])
   |6,rfl=>
    exact RY.p (.pointer (some ⟨(b0+1),1,none⟩)) (by simp[execOp,go_sem,RY.K hk 3 (.pointer (some ⟨(b0+1),0,none⟩))])
   |7,rfl=>
    have e33:=RY.E hd 6 33;have ycl_:=z_b0___1_.get 1 _ rfl;exact RY.p (.slice wa x.ws.length wc) (by simp[execOp,go_sem,e33,ycl_])
   |8,rfl=>
    have e32:=RY.E hd 5 32;have e34:=RY.E hd 7 34;refine Xk ⟨60,#[.slice ya y.ws.length yc,.slice wa x.ws.length wc],by simp[go_sem,e32,e34],(Js.out X hX).mono ?_⟩;rintro e W' ⟨rfl,hb⟩;exact⟨_,rfl,hb,rfl⟩
   |n+9,ho=>simp at ho
  intro X vs hX bn;have q35:vs 35=_:=bn 8 _ 35 rfl rfl;simp only[RY.aC,Act.put,so,As,An];rw[q35];generalize vs 27=s27,vs 28=s28,vs 29=s29,vs 30=s30,vs 31=sL,vs 32=pS,vs 33=pY,vs 34=qo;clear bn q35;replace HB:=uh (ae HB.out hX)
  replace eD:=uh (eD.out.later hX)
  replace Lj:=uh (Lj.out.later hX)
  replace cU:=uh (aj cU.out de.out hX)
  replace de:=uh (zL de.out hX.size)
  clear hX;cases hw:Pl.cL y.ws x.ws
  ·have Mx:Hid (c2=(b.lines.take (k+1)).countP fun y=>(y.key.toList==x.key.toList)&&Pl.cL y.ws x.ws):=by show _=_;rw[y6.out,hq,hw];rfl
   go_wp2;go_roundw
   case rel=>exact⟨k+1,c1+1,c2,by omega,by go_num,by go_num,by go_num,D3.out,Mx.out,HB.out⟩
   case measure=>simp[intOf];omega
  have Mx:Hid (c2+1=(b.lines.take (k+1)).countP fun y=>(y.key.toList==x.key.toList)&&Pl.cL y.ws x.ws):=by show _=_;rw[y6.out,hq,hw];rfl
  go_wp2;go_roundw
  case rel=>exact⟨k+1,c1+1,c2+1,by omega,by go_num,by go_num,by go_num,D3.out,Mx.out,HB.out⟩
  case measure=>simp[intOf];omega
theorem EB {P:Program} (t ty e t0:TypeId) (size bytes:Nat) (z:Value) (ht:P.underlying t=some (.slice e)) (hinf:(P.info? e).map (fun i=>(i.zero,i.size,i.bytes))=some (some z,size,bytes)) (Av:z.cells.size=size) (hs0:0<size) (hb:bytes≤1000)
  (sh:List Sh) (hk:sh.length=size) (hfl:dL sh=true) (W:World) (g:Nat) (hg:W.heap[g]? =some (.cells #[] e (0,0))) (n:Nat) (es:List Dt) (v:Value) (h:Raw W [.row t0 sh] [.row n es] [v]) (hn:n≤4194304):
  ∃ v' W' F,(Builtin.append_ #[t,t] ty #[.slice (some ⟨g,0,none⟩) 0 0,v]).run P W=.ok v' W'∧Rep W' false [.row e sh] F [.row n es] [v']∧F.Nodup∧(∀ b∈F,W.heap.size≤b)∧Bel W W':=by
 have gh:g<W.heap.size:=(Xh.1 hg).1;obtain⟨v',W',xs,bC,hG,hB⟩:=kO (P:=P) g t ty e t0 size bytes z ht hinf Av hs0 hb sh hk hfl W (.slice (some ⟨g,0,none⟩) 0 0) (Xk ⟨g,rfl,zE,hg⟩) (by omega) n es v h hn;obtain⟨i,hi,ei⟩:=XH.1 hinf;simp only[Prod.mk.injEq]at ei;obtain⟨hz,hs,eS⟩:=ei;by_cases h0:n=0
 ·subst h0;have UC:es=[]:=Xs (by obtain⟨_,_,_,q,t,_⟩:=h.typ.c_r;injection q with e1 e2;injection e1 with e3 e4;subst e3;subst e4;have:=t.rows;omega);subst UC;obtain⟨a,c,rfl⟩:=h.aT;have wt:Src P i.size t (.slice a 0 c) 0 [] W:=by
   cases a with
   |none=>exact Src.ofNil W ht c
   |some ad=>exact Src.ofSlice W ht ad 0 c [] (by simp) (fun j u h=>by simp at h) (fun u h=>by cases h)
  have k4:(Builtin.append_ #[t,t] ty #[.slice (some ⟨g,0,none⟩) 0 0,.slice a 0 c]).run P W=.ok (.slice (some ⟨g,0,none⟩) 0 0) W:=by
   have:=run_append_room_src (P:=P) W t t ty e i ht hi g 0 0 0 (.slice a 0 c) 0 [] wt (by omega) (fun j h=>by simp at h) (fun j h=>by simp at h);rw[this];rfl
  exact⟨_,W,[],k4,.emp _ _ _ rfl .nil,XL,by simp,zR⟩
 ·rcases h.slice with⟨e0,_⟩|⟨p,o,c,rfl,hp,gF,vs,hr,hR⟩
  ·exact absurd e0 h0
  have hl:vs.length=n*size:=by rw[hR.len,bU,hk]
  have p5:n*bytes≤4194304*1000:=Nat.mul_le_mul hn hb;obtain⟨g2,cap,w2,Ci,B6,_,hor,_⟩:=run_append_lies (P:=P) (w:=W) t ty g e i z size bytes ht hi hz hs eS Av hs0 (.slice (some ⟨g,0,none⟩) 0 0) 0 [] (JW.owns (W:=W) (lo:=g) (e:=e) (Xk ⟨g,rfl,zE,hg⟩) size) ⟨p,o,none⟩ n c vs hl (fun j u hu=>by rw[Addr.add_mid];exact hr j u hu) hR.one (by omega) (by unfold maxLen;omega) (by rw[Xr];omega) (by omega) _ rfl;rw[bC]at Ci;injection Ci with hv hw
  subst hv;subst hw;rw[Xr,Yn]at B6;have pV:g2=W.heap.size:=by
   rcases hor with q|q
   ·exfalso;have e2:g=g2:=by simpa [Value.ownBlock]using q
    subst e2;rcases B6.2 with⟨q1,_⟩|⟨g3,Ob,cur,q1,q2,q3,q4,q5,q6,q7⟩
    ·cases q1
    ·injection q1 with q1
     injection q1 with q1
     injection q1 with q1
     subst q1;have:=(hB.block g gh).symm.trans q3;rw[hg]at this;injection this with this
     injection this with this
     subst this;simp at q6;have:0<Ob*size:=Nat.mul_pos (by omega) hs0;omega
   ·exact q
  rw[Xr]at bC;have sF:Gr W' W.heap.size e sh (.slice (some ⟨g2,0,none⟩) n cap) n [] es vs:=by
   refine⟨?_,hR.flat (mH hfl n) W' false,XL,by simp⟩;rw[hk];refine⟨B6.1,B6.2.imp id ?_⟩;rintro⟨g3,Ob,cur,q1,q2,q3⟩;refine⟨g3,Ob,cur,q1, ?_,q3⟩;injection q1 with q1
   injection q1 with q1
   injection q1 with q1
   omega
  obtain⟨F,r,nd,fr⟩:=sF.done;exact⟨_,W',F,bC,r,nd,fr,hB⟩
namespace Pl
def bt (ws:List ByteArray):Ln:=⟨ws.getD 0 aJ,ws.drop 1⟩
def bX (b:Bl) (ws:List ByteArray):Nat:=
 match bP (ah b.kind) (bt ws).key with
 |none=>5
 |some j=>
  if bH b.kind (bt ws).key (bt ws).ws=false then 7
  else if decide (0<ja b.lines (bt ws))||(decide (0<aR b.lines (bt ws).key)&& !((ah b.kind).getD j bu).many) then 6
  else if 10≤aR b.lines (bt ws).key then 10 else 0
def bK (b:Bl) (ws:List ByteArray):Bl:=if bX b ws=0 then ⟨b.kind,b.name,bS b.kind b.lines (bt ws)⟩ else b
end Pl
theorem CS {w:World} {ws:List ByteArray} {p o c m:Nat} (h:Raw w bm [.row ws.length (txD ws)] [.slice (some ⟨p,o,none⟩) (m+1) c]) (hm:ws.length=m+1):∃ a c',(∀ W,(Instr.slice 38 (.slice (some ⟨p,o,none⟩) (m+1) c) (some (.int .i64 1)) none none).run Tryz.prog W=.ok (.slice a m c') W)∧Raw w bm [.row m (txD (ws.drop 1))] [.slice a m c']:=by
 rw[hm]at h;rcases h.slice with⟨e0,_⟩|⟨p',o',c2,hv,hp,dR,vs,hr,hR⟩
 ·omega
 injection hv with g1 g2 g3
 injection g1 with g1
 injection g1 with g4 g5
 subst g4;subst g5;subst g3;obtain⟨x,P8,rfl⟩:∃ x P8,ws=x::P8:=by
  cases ws with
  |nil=>simp at hm
  |cons x l=>exact⟨x,l,rfl⟩
 have mR:Raw w (.s::bF m [.s]) (.s x::txD P8) vs:=by rw[dk]at hR;exact hR
 obtain⟨vs2,bn,Q4⟩:=mR.c_s;subst bn;have k4:w.rangeAt p (o+1) vs2:=(gU (x:=[.string x]) (y:=vs2) hr).2;obtain⟨i,hi,ei⟩:=XH.1 Tryz.bI;simp only[Prod.mk.injEq]at ei;refine⟨some (if c=1 then ⟨p,o,none⟩ else ⟨p,o+1,none⟩),c - 1,fun W=> ?_, ?_⟩
 ·rw[run_slice_l (P:=Tryz.prog) (w:=W) (t:=38) (a:=some ⟨p,o,none⟩) (len:=m+1) (cap:=c) (by kernel_rfl) .i64 1 (by omega) (by omega)];have he:Tryz.prog.elem 38=9:=by kernel_rfl
  by_cases AV:c=1<;>simp[sizeOf,typeInfo,he,hi,sliced,ei.2.1,AV,Addr.add_mid]
 ·by_cases AV:c=1
  ·have lG:m=0:=by omega
   subst lG;have fw:P8=[]:=by
    cases P8 with
    |nil=>rfl
    |cons y l=>simp at hm
   subst fw;exact .emp _ _ _ _ .nil
  ·rw[if_neg AV];exact .row _ _ p (o+1) m (c - 1) vs2 (txD P8) hp ⟨by omega,by omega⟩ k4 Q4 .nil
def NW (b0:Nat) (p:Nat) (o:Nat) (m:Nat) (wc:Nat) (b:Pl.Bl) (k0:ByteArray):Nat→Value→World→Prop
 |0,vv,_=>vv=.pointer (some ⟨b0,0,none⟩)
 |1,vv,_=>vv=.string b.kind
 |2,vv,_=>vv=.slice (some ⟨p,o,none⟩) (m+1) wc
 |3,vv,_=>vv=.pointer (some ⟨p,o,none⟩)
 |4,vv,_=>vv=.string k0
 |5,vv,_|6,vv,_=>vv=.int .i64 (Pl.ixI (Pl.bP (Pl.ah b.kind) k0))
 |_,_,_=>True
theorem CO (b0:Nat) (p:Nat) (o:Nat) (m:Nat) (wc:Nat) (b:Pl.Bl) (k0:ByteArray):∀ jj vv W W',Bel W W'→NW b0 p o m wc b k0 jj vv W→NW b0 p o m wc b k0 jj vv W':=by
 intro jj vv W W' hb h;match jj with
 |0|1|2|3|4|5|6=>exact h
 |n+7=>exact trivial
def Gy (N0:Nat) (p:Nat) (o:Nat) (m:Nat) (wc:Nat) (tc:Nat) (ta:Option Addr) (k0:ByteArray) (ts:List ByteArray):Nat→Value→World→Option Nat→Prop
 |0,vv,_,_|4,vv,_,_=>vv=.slice (some ⟨p,o,none⟩) (m+1) wc
 |1,vv,_,_=>vv=.pointer (some ⟨p,o,none⟩)
 |2,vv,_,_=>vv=.string k0
 |3,vv,W,_=>∃ g,vv=.slice (some ⟨g,0,none⟩) 0 0∧W.heap[g]? =some (.cells #[] 9 (0,0))
 |5,vv,_,_=>vv=.slice ta m tc
 |6,vv,W,A_=>∃ v F,vv=v∧Rep W false bm F [.row m (txD ts)] [v]∧∀ b∈F,N0≤b∧A_≠some b
 |7,vv,W,A_=>∃ a3 c3 F,vv=.agg #[.string k0,.slice a3 m c3]∧Rep W false bm F [.row m (txD ts)] [.slice a3 m c3]∧∀ b∈F,N0≤b∧A_≠some b
 |8,_,_,_=>True
 |_,_,_,_=>True
theorem CW (N0:Nat) (p:Nat) (o:Nat) (m:Nat) (wc:Nat) (tc:Nat) (ta:Option Addr) (k0:ByteArray) (ts:List ByteArray):∀ jj vv W W' A_,Bel W W'→Gy N0 p o m wc tc ta k0 ts jj vv W A_→Gy N0 p o m wc tc ta k0 ts jj vv W' A_:=by
 intro jj vv W W' A_ hb h;match jj with
 |0|1|2|4|5|8=>exact h
 |3=>
  obtain⟨g,h1,h2⟩:=h;exact⟨g,h1,(hb.block g (Xh.1 h2).1).trans h2⟩
 |6=>
  obtain⟨v,F,h1,h2,h3⟩:=h;exact⟨v,F,h1,h2.later hb,h3⟩
 |7=>
  obtain⟨a3,c3,F,h1,h2,h3⟩:=h;exact⟨a3,c3,F,h1,h2.later hb,h3⟩
 |n+9=>exact trivial
theorem J7 (N0:Nat) (p:Nat) (o:Nat) (m:Nat) (wc:Nat) (tc:Nat) (ta:Option Addr) (k0:ByteArray) (ts:List ByteArray):∀ jj vv W,Gy N0 p o m wc tc ta k0 ts jj vv W none→Gy N0 p o m wc tc ta k0 ts jj vv W (some W.heap.size):=by
 intro jj vv W h;match jj with
 |0|1|2|3|4|5|8=>exact h
 |6=>
  obtain⟨v,F,h1,h2,h3⟩:=h;exact⟨v,F,h1,h2,fun b hb=>⟨(h3 b hb).1,fun e=>by injection e with e;have:=h2.lt b hb;omega⟩⟩
 |7=>
  obtain⟨a3,c3,F,h1,h2,h3⟩:=h;exact⟨a3,c3,F,h1,h2,fun b hb=>⟨(h3 b hb).1,fun e=>by injection e with e;have:=h2.lt b hb;omega⟩⟩
 |n+9=>exact trivial
theorem qO {S:Nat→Prop} {B lo:Nat} (b:Pl.Bl) (ws:List ByteArray) (lv wv:Value) (w:World) (h:Dat S B lo w aV [bD b.lines] [lv]) (hx:Raw w bm [.row ws.length (txD ws)] [wv]) (iQ:0<ws.length) (JC:ws.length≤4194304) (hz:∀ x∈ws,x.size≤maxLen) (hl:b.lines.length≤4194304) (cX:lo≤w.heap.size):
  Calls Tryz.prog 17 #[.agg #[.string b.kind,.string b.name,lv],wv] w fun e w'=>∃ c,e=.returned (.tuple #[.agg c.toArray,.int .i64 (Pl.bX b ws:Nat)])∧Dat S B lo w' aq (blD (Pl.bK b ws)) c∧Bel w w':=by
 have HD:=uh (h.shift (pb:=w.heap.size) zE (w.heap.size+2));have mP:=uh cX;obtain⟨va,vc,ev⟩:=h.raw.aT;subst ev;obtain⟨m,hm⟩:∃ m,ws.length=m+1:=⟨ws.length - 1,by omega⟩
 obtain⟨xa0,wc,ev⟩:=hx.aT;subst ev;rcases dK hx with⟨e0,_⟩|⟨p,o,c,hv,hp,dR,aE⟩
 ·omega
 injection hv with g1 g2 g3
 subst g1;subst g3;have h0:=aE 0 (by omega);rw[Nat.add_zero]at h0;rw[hm]at hx;obtain⟨ta,tc,Wu,Ie⟩:=CS (by rw[hm];exact hx) hm;obtain⟨x,PH⟩:∃ x,x=Pl.bt ws:=⟨_,rfl⟩
 have tm:=uh PH;obtain⟨k0,cZ⟩:∃ k0,k0=x.key:=⟨_,rfl⟩
 obtain⟨ts,Pc⟩:∃ ts,ts=x.ws:=⟨_,rfl⟩
 have K9:Hid (x=⟨k0,ts⟩):=by show _=_;rw[cZ,Pc]
 have e0:ws.getD 0 Pl.aJ=k0:=by rw[cZ,PH];rfl
 have e1:ws.drop 1=ts:=by rw[Pc,PH];rfl
 rw[e0]at h0;rw[e1]at Ie;have Mn:=uh Ie;have zi:Hid (ts.length=m):=by show _=_;rw[← e1,Xy];omega
 have Ot:Hid (m≤4194304):=by show _≤_;omega
 have HTZ:Hid (∀ t∈ts,t.size≤maxLen):=fun t ht=>hz t (Ys (by rw[e1];exact ht));have LA:Hid (w.cell? ⟨p,o,none⟩=some (.string k0)∧p<w.heap.size):=⟨h0,hp⟩
 have lG:(0:Int)≤(m:Int):=by omega
 rw[hm];clear h hx aE dR hp h0 Ie e0 e1 PH cZ Pc hz iQ JC;obtain⟨w0,iQ⟩:∃ w0,w0=(w.alloc (.cells #[.string b.kind,.string b.name,.slice va b.lines.length vc] 58)).alloc (.cells #[.string {data:=#[]},.string {data:=#[]},.slice none 0 0] 58):=⟨_,rfl⟩
 obtain⟨b0,aU⟩:∃ b0,b0=w.heap.size:=⟨_,rfl⟩
 have fZ:=uh aU;have HB:Hid (Bel w w0):=by show Below _ _ _;rw[iQ];exact af (af zR _) _
 have eD:Hid (au w0 b0 [.string b.kind,.string b.name,.slice va b.lines.length vc]):=by show au _ _ _;rw[iQ,aU];exact(au.new w #[.string b.kind,.string b.name,.slice va b.lines.length vc] _ _ rfl).eO _
 have fG:Hid (aA w0 (b0+1) 58 [.string {data:=#[]},.string {data:=#[]},.slice none 0 0]):=by show aA _ _ _ _;rw[iQ,aU];exact aA.new (w.alloc (.cells #[.string b.kind,.string b.name,.slice va b.lines.length vc] 58)) [.string {data:=#[]},.string {data:=#[]},.slice none 0 0] 58 _ (by simp)
 rw[← aU]at HD mP;replace HD:=uh (HD.out.later HB.out)
 have cU:Hid (w0.rangeAt p o [.string k0]):=by
  show World.rangeAt _ _ _ _;refine aj (w:=w) (fun j v hv=> ?_) LA.out.2 HB.out;match j,hv with
  |0,hv=>injection hv with hv;rw[← hv];exact LA.out.1
 have de:Hid (p<w0.heap.size):=zL LA.out.2 HB.out.size;have DM:=uh (Mn.out.later HB.out);clear Mn LA;go_enter Tryz.func17,Tryz.ntmps17
 go_upto_region 1 with fail
 rw[← iQ,← aU];clear iQ aU;obtain⟨wr,y8⟩:∃ wr,wr=w0:=⟨_,rfl⟩
 rw[← y8]at HB eD fG HD cU de DM ⊢;clear y8;refine RY.bs wr zR (NW b0 p o m wc b k0) (CO _ _ _ _ _ _ _) (by kernel_rfl) (by kernel_rfl) (by kernel_rfl) (by kernel_rfl) ?_ ?_
 ·intro ii o' ho a X hX hk hd;have zb0:=eD.out.later hX;have zb0l:=zb0.lt;match ii,ho with
  |0,rfl=>
   exact RY.p (.pointer (some ⟨b0,0,none⟩)) (by simp[execOp,go_sem,RY.K hk 2 (.pointer (some ⟨b0,0,none⟩))])
  |1,rfl=>
   have e10:=RY.E hd 0 10;have ycl_:=zb0.get 0 _ rfl;exact RY.p (.string b.kind) (by simp[execOp,go_sem,e10,ycl_])
  |2,rfl=>
   exact RY.p (.slice (some ⟨p,o,none⟩) (m+1) wc) (by simp[execOp,go_sem,RY.K hk 1 (.slice (some ⟨p,o,none⟩) (m+1) wc)])
  |3,rfl=>
   exact RY.p (.pointer (some ⟨p,o,none⟩)) (by simp[execOp,go_sem,RY.E hd 2 12])
  |4,rfl=>
   have e13:=RY.E hd 3 13;have ypl_:=zL de.out hX.size;have ycl_:X.cell? ⟨p,o,none⟩=some (.string k0):=by have q:=aF (aj cU.out de.out hX) 0 _ rfl;simpa using q
   exact RY.p (.string k0) (by simp[execOp,go_sem,e13,ycl_])
  |5,rfl=>
   have e11:=RY.E hd 1 11;have e14:=RY.E hd 4 14;refine Xk ⟨39,#[.string b.kind,.string k0],by simp[go_sem,e11,e14],(kT b.kind k0 X).mono ?_⟩;rintro e W' ⟨rfl,hb⟩;exact⟨_,rfl,hb,rfl⟩
  |6,rfl=>
   exact RY.p (.int .i64 (Pl.ixI (Pl.bP (Pl.ah b.kind) k0))) (by simp[execOp,go_sem,RY.E hd 5 15])
  |n+7,ho=>simp at ho
 intro X vs hX bn;have q6:vs 6=_:=bn 6 _ 6 rfl rfl;simp only[RY.aC,Act.put,so,As,An];rw[q6];generalize vs 10=s10,vs 11=s11,vs 12=s12,vs 13=s13,vs 14=s14,vs 15=s15;clear bn q6;replace HB:=uh (ae HB.out hX)
 replace eD:=uh (eD.out.later hX)
 replace fG:=uh (fG.out.later hX)
 replace HD:=uh (HD.out.later hX)
 replace cU:=uh (aj cU.out de.out hX)
 replace de:=uh (zL de.out hX.size)
 replace DM:=uh (DM.out.later hX)
 clear hX;obtain⟨wr,y8⟩:∃ wr,wr=X:=⟨_,rfl⟩
 rw[← y8]at HB eD fG HD cU de DM ⊢;clear y8;have Mn:=DM;obtain⟨N0,hN0⟩:∃ N0,N0=wr.heap.size:=⟨_,rfl⟩
 have Rj:Hid (N0≤wr.heap.size∧b0+2≤N0):=⟨by omega,by rw[hN0];exact fG.out.own.lt⟩
 clear hN0;go_upto_region 2 with fail
 refine RY.uB wr zR (Gy N0 p o m wc tc ta k0 ts) (CW _ _ _ _ _ _ _ _ _) (J7 _ _ _ _ _ _ _ _ _) (fun vals W'=>∃ q a3 c3 F,vals 8=.pointer (some ⟨q,0,none⟩)∧Bel wr W'∧aA W' q 41 [.string k0,.slice a3 m c3]∧Rep W' false bm F [.row m (txD ts)] [.slice a3 m c3]∧∀ b∈F,N0≤b) 9 12 (by kernel_rfl) (by kernel_rfl) (by kernel_rfl) (by kernel_rfl) rfl [7,8] (by kernel_rfl) (by kernel_rfl) _ rfl rfl (by kernel_rfl) 8 7 _ rfl rfl (by decide) 41 [.string {data:=#[]},.slice none 0 0] ?_ ?_ ?_ ?_
 ·intro a Wx;kernel_rfl
 ·intro ii o' ho wJ Pv a X A_ hX Tp hk hd;match ii,ho with
  |0,rfl|4,rfl=>
   exact RY.p (.slice (some ⟨p,o,none⟩) (m+1) wc) (by simp[execOp,go_sem,RY.K hk 1 (.slice (some ⟨p,o,none⟩) (m+1) wc)])
  |1,rfl=>
   have e16:a.tmps[16]?.getD undef=.slice (some ⟨p,o,none⟩) (m+1) wc:=(RY.ai a 16).trans (hd 0 _ 16 rfl rfl ⟨⟨0,.data⟩,by simp,rfl,rfl⟩ (by decide) (by decide));exact RY.p (.pointer (some ⟨p,o,none⟩)) (by simp[execOp,go_sem,e16])
  |2,rfl=>
   have e17:a.tmps[17]?.getD undef=.pointer (some ⟨p,o,none⟩):=(RY.ai a 17).trans (hd 1 _ 17 rfl rfl ⟨⟨1,.data⟩,by simp,rfl,rfl⟩ (by decide) (by decide));have ypl_:=zL de.out hX.size;have ycl_:X.cell? ⟨p,o,none⟩=some (.string k0):=by have q:=aF (aj cU.out de.out hX) 0 _ rfl;simpa using q
   exact RY.p (.string k0) (by simp[execOp,go_sem,e17,ycl_])
  |3,rfl=>
   exact No ⟨.slice (some ⟨X.heap.size,0,none⟩) 0 0,X.alloc (.cells #[] 9),by simp[execOp,go_sem],af zR _,X.heap.size,rfl,heap_alloc_new X _⟩
  |5,rfl=>
   have e20:a.tmps[20]?.getD undef=.slice (some ⟨p,o,none⟩) (m+1) wc:=(RY.ai a 20).trans (hd 4 _ 20 rfl rfl ⟨⟨4,.data⟩,by simp,rfl,rfl⟩ (by decide) (by decide));exact RY.p (.slice ta m tc) (by simp[execOp,go_sem,e20,Wu])
  |6,rfl=>
   obtain⟨g,q19,VM⟩:=hd 3 _ 19 rfl rfl ⟨⟨3,.data⟩,by simp,rfl,rfl⟩ (by decide) (by decide);have e19:a.tmps[19]?.getD undef=.slice (some ⟨g,0,none⟩) 0 0:=(RY.ai a 19).trans q19;have e21:a.tmps[21]?.getD undef=.slice ta m tc:=(RY.ai a 21).trans (hd 5 _ 21 rfl rfl ⟨⟨5,.data⟩,by simp,rfl,rfl⟩ (by decide) (by decide));obtain⟨v',X',F,bC,hr,nd,fr,hb⟩:=EB (P:=Tryz.prog) 38 38 9 9 1 16 _ Tryz.gP Tryz.bI rfl (by decide) (by decide) [.s] rfl (by simp[dL]) X g VM m (txD ts) (.slice ta m tc) (Mn.out.later hX) Ot.out;exact No ⟨v',X',aQ (.tmp 19) (.tmp 21) 38 rfl q19 ((hd 5 _ 21 rfl rfl ⟨⟨5,.data⟩,by simp,rfl,rfl⟩ (by decide) (by decide))) bC,hb,v',F,rfl,hr,fun b gY=>⟨by have:=fr b gY;have:=hX.size;have:=Rj.out;omega,fun e=>by have:=fr b gY;have:=Tp b e;omega⟩⟩
  |7,rfl=>
   have e18:a.tmps[18]?.getD undef=.string k0:=(RY.ai a 18).trans (hd 2 _ 18 rfl rfl ⟨⟨2,.data⟩,by simp,rfl,rfl⟩ (by decide) (by decide));obtain⟨v22,F22,q22,Sg,Uu⟩:=hd 6 _ 22 rfl rfl ⟨⟨6,.data⟩,by simp,rfl,rfl⟩ (by decide) (by decide);have e22:a.tmps[22]?.getD undef=v22:=(RY.ai a 22).trans q22;obtain⟨a3,c3,wC⟩:=Sg.raw.aT;subst wC;exact No ⟨.agg #[.string k0,.slice a3 m c3],X,by simp[execOp,go_sem,e18,e22],zR,a3,c3,F22,rfl,Sg,Uu⟩
  |8,ho=>
   exact absurd rfl Pv
  |n+9,ho=>omega
 ·intro a X vals q hX hk SH hq dN hV hd;obtain⟨a3,c3,F,e1,hr3,hf3⟩:=hV 7 (by decide) (by decide);have t23:a.eval (.tmp 23)=_:=(hd 7 _ 23 rfl rfl ⟨⟨7,.data⟩,by simp,rfl,rfl⟩ (by decide)).trans e1;have t7:a.eval (.tmp 7)=_:=(hd 8 _ 7 rfl rfl ⟨⟨8,.data⟩,by simp,rfl,rfl⟩ (by decide)).trans SH;have bJ:X.there q 0 2:=aX dN _ _ (by simp);refine⟨X.setCells q 0 [.string k0,.slice a3 m c3],RY.dM _ _ _ rfl t7 t23 bJ (by kernel_rfl) (by simp[Value.oneCell']),q,a3,c3,F,SH,bW hq _ _ _ hX,⟨ig _ _ _ dN,World.rangeAt_setCells_same _ _ _ _ bJ⟩, ?_,fun b hb=>(hf3 b hb).1⟩;exact hr3.cO (bf (S:=fun b=>b=q) rfl _ _ _) fun b hb e=>(hf3 b hb).2 (by rw[e])
 ·intro vals vs X hK bn;simp only[RY.aC,Act.put,so,As,An];have q7:=bn 8 _ 7 rfl rfl;generalize vs 16=s16,vs 17=s17,vs 18=s18,vs 19=s19,vs 20=s20,vs 21=s21,vs 22=s22,vs 23=s23;clear bn;obtain⟨q,a3,c3,F,e7,P3,hQ,Q4,hF3⟩:=hK;rw[q7,e7];clear q7 e7;obtain⟨W1,MA⟩:∃ W1,W1=X:=⟨_,rfl⟩
  rw[← MA]at P3 hQ Q4 ⊢;clear MA;have HQ:=uh hQ;have wQ:Hid (Dat (fun q=>(S q∧q<B)∨lo≤q) b0 (b0+2) W1 bm [.row m (txD ts)] [.slice a3 m c3]):=⟨F,Q4,fun b hb=>Xk (by have:=hF3 b hb;have:=Rj.out.2;omega)⟩
  replace HB:=uh (ae HB.out P3)
  replace eD:=uh (eD.out.later P3)
  replace fG:=uh (fG.out.later P3)
  replace HD:=uh (HD.out.later P3)
  clear hQ Q4 hF3 P3 DM Mn cU de Rj Wu;cases hj:Pl.bP (Pl.ah b.kind) k0 with
  |none=>
   simp only[Pl.ixI];have HE:Hid (Pl.bX b ws=5):=by show _=_;unfold Pl.bX;rw[← tm.out,K9.out,hj]
   have DK:Hid (Pl.bK b ws=b):=by show _=_;unfold Pl.bK;rw[HE.out];rfl
   have bJ:W1.there (b0+1) 0 (#[.string b.kind,.string b.name,.slice va b.lines.length vc]:Array Value).size:=aX fG.out.own _ _ (by simp);obtain⟨we,aZ⟩:∃ we,we=W1.setCells (b0+1) 0 [.string b.kind,.string b.name,.slice va b.lines.length vc]:=⟨_,rfl⟩
   have dP:we.rangeAt (b0+1) 0 [.string b.kind,.string b.name,.slice va b.lines.length vc]:=by rw[aZ];exact World.rangeAt_setCells_same _ _ _ _ bJ
   have gT:Hid (Marks (fun b=>b=b0+1) W1 we):=by show Marks _ _ _;rw[aZ];exact bf (S:=fun b=>b=b0+1) rfl _ _ _
   have xz:=eD.out.lt;have xa:=eD.out.at_;go_wp2_with (first|(refine wpList_load_mid rfl 58 _ rfl b0 0 rfl [.string b.kind,.string b.name,.slice va b.lines.length vc] _ xa Tryz.underlying58 rfl (by kernel_rfl) ?_)|(refine wpList_store_mid rfl 58 _ _ rfl (b0+1) 0 #[.string b.kind,.string b.name,.slice va b.lines.length vc] rfl rfl bJ (by kernel_rfl) (by simp[Value.oneCell']) ?_))
   first|rw[← aZ]|(simp only[Xi];rw[← aZ])
   try simp only[Act.put,so,As,An]
   refine bodyPost_ret (v:=.tuple #[.agg #[.string b.kind,.string b.name,.slice va b.lines.length vc],.int .i64 5]) (by simp[results,Tryz.results17,asAddr,run_loadVar_mid (P:=Tryz.prog) _ _ _ 58 [.string b.kind,.string b.name,.slice va b.lines.length vc] _ dP Tryz.underlying58 rfl (by kernel_rfl)]) rfl ?_;have hz:=fZ.out;refine⟨[.string b.kind,.string b.name,.slice va b.lines.length vc],by rw[HE.out];rfl, ?_,gT.out.below (fun b e=>by omega) HB.out⟩;rw[DK.out];exact Dat.back (fH (HD.out.cO gT.out fun b e=>by omega)) (by have:=mP.out;omega)
  |some j=>
   have Az:Hid (Pl.bX b ws=if Pl.bH b.kind k0 ts=false then 7 else if decide (0<Pl.ja b.lines x)||(decide (0<Pl.aR b.lines k0)&& !((Pl.ah b.kind).getD j Pl.bu).many) then 6 else if 10≤Pl.aR b.lines k0 then 10 else 0):=by
    show _=_;unfold Pl.bX;rw[← tm.out];have Aw:x.key=k0:=by rw[K9.out]
    have JN:x.ws=ts:=by rw[K9.out]
    rw[Aw,JN,hj]
   simp only[Pl.ixI];have lR:¬ ((j:Int)<0):=by omega
   have xz:=eD.out.lt;have x0:=eD.out.get 0 _ rfl;have qz:=HQ.out.own.lt;have q0:=HQ.out.get 0 _ rfl;have q1:=HQ.out.get 1 _ rfl;have nN:=uh (qL b.kind k0 ts (.slice a3 m c3) W1 (by rw[zi.out];exact wQ.out.raw) HTZ.out);go_wp2_with fail
   refine nN.out.mono ?_;rintro e W2 ⟨rfl,hb⟩;replace HB:=uh (ae HB.out hb)
   replace eD:=uh (eD.out.later hb)
   replace fG:=uh (fG.out.later hb)
   replace HD:=uh (HD.out.later hb)
   replace HQ:=uh (HQ.out.later hb)
   replace wQ:=uh (wQ.out.later hb)
   clear hb xz x0 qz q0 q1 nN;cases Qi:Pl.bH b.kind k0 ts
   ·
    have HE:Hid (Pl.bX b ws=7):=by show _=_;rw[Az.out,if_pos Qi]
    have DK:Hid (Pl.bK b ws=b):=by show _=_;unfold Pl.bK;rw[HE.out];rfl
    have bJ:W2.there (b0+1) 0 (#[.string b.kind,.string b.name,.slice va b.lines.length vc]:Array Value).size:=aX fG.out.own _ _ (by simp);obtain⟨we,aZ⟩:∃ we,we=W2.setCells (b0+1) 0 [.string b.kind,.string b.name,.slice va b.lines.length vc]:=⟨_,rfl⟩
    have dP:we.rangeAt (b0+1) 0 [.string b.kind,.string b.name,.slice va b.lines.length vc]:=by rw[aZ];exact World.rangeAt_setCells_same _ _ _ _ bJ
    have gT:Hid (Marks (fun b=>b=b0+1) W2 we):=by show Marks _ _ _;rw[aZ];exact bf (S:=fun b=>b=b0+1) rfl _ _ _
    have xz:=eD.out.lt;have xa:=eD.out.at_;go_wp2_with (first|(refine wpList_load_mid rfl 58 _ rfl b0 0 rfl [.string b.kind,.string b.name,.slice va b.lines.length vc] _ xa Tryz.underlying58 rfl (by kernel_rfl) ?_)|(refine wpList_store_mid rfl 58 _ _ rfl (b0+1) 0 #[.string b.kind,.string b.name,.slice va b.lines.length vc] rfl rfl bJ (by kernel_rfl) (by simp[Value.oneCell']) ?_))
    first|rw[← aZ]|(simp only[Xi];rw[← aZ])
    try simp only[Act.put,so,As,An]
    refine bodyPost_ret (v:=.tuple #[.agg #[.string b.kind,.string b.name,.slice va b.lines.length vc],.int .i64 7]) (by simp[results,Tryz.results17,asAddr,run_loadVar_mid (P:=Tryz.prog) _ _ _ 58 [.string b.kind,.string b.name,.slice va b.lines.length vc] _ dP Tryz.underlying58 rfl (by kernel_rfl)]) rfl ?_;have hz:=fZ.out;refine⟨[.string b.kind,.string b.name,.slice va b.lines.length vc],by rw[HE.out];rfl, ?_,gT.out.below (fun b e=>by omega) HB.out⟩;rw[DK.out];exact Dat.back (fH (HD.out.cO gT.out fun b e=>by omega)) (by have:=mP.out;omega)
   have xz:=eD.out.lt;have xa:=eD.out.at_;have qz:=HQ.out.own.lt;have qa:=HQ.out.at_;have ML:Hid (Calls Tryz.prog 41 #[.agg #[.string b.kind,.string b.name,.slice va b.lines.length vc],.agg #[.string k0,.slice a3 m c3]] W2 fun e w'=>e=.returned (.tuple #[.int .i64 (Pl.aR b.lines k0:Nat),.int .i64 (Pl.ja b.lines x:Nat)])∧Bel W2 w'):=by
    have:=J0 b ⟨k0,ts⟩ (.slice va b.lines.length vc) (.slice a3 m c3) W2 HD.out.raw (by show Raw _ _ [.row ts.length _] _;rw[zi.out];exact wQ.out.raw) hl;rw[← K9.out]at this;have Aw:x.key=k0:=by rw[K9.out]
    rw[Aw]at this;exact this
   obtain⟨c1,AV⟩:∃ c1,c1=Pl.aR b.lines k0:=⟨_,rfl⟩
   obtain⟨c2,B9⟩:∃ c2,c2=Pl.ja b.lines x:=⟨_,rfl⟩
   rw[← AV,← B9]at ML Az;clear AV B9;go_wp2_with (first|(refine wpList_load_mid rfl 58 _ rfl b0 0 rfl [.string b.kind,.string b.name,.slice va b.lines.length vc] _ xa Tryz.underlying58 rfl (by kernel_rfl) ?_)|(refine wpList_load_mid rfl 41 _ rfl q 0 rfl [.string k0,.slice a3 m c3] _ qa Tryz.underlying41 rfl (by kernel_rfl) ?_))
   refine ML.out.mono ?_;rintro e W3 ⟨rfl,hb⟩;replace HB:=uh (ae HB.out hb)
   replace eD:=uh (eD.out.later hb)
   replace fG:=uh (fG.out.later hb)
   replace HD:=uh (HD.out.later hb)
   replace HQ:=uh (HQ.out.later hb)
   replace wQ:=uh (wQ.out.later hb)
   clear hb xz xa qz qa ML;by_cases Cj:0<c2
   ·have d2:(0:Int)<(c2:Int):=by omega
    go_upto_region 9 with fail
    have HE:Hid (Pl.bX b ws=6):=by show _=_;rw[Az.out,Qi,if_neg (by decide),decide_eq_true Cj];rfl
    have DK:Hid (Pl.bK b ws=b):=by show _=_;unfold Pl.bK;rw[HE.out];rfl
    have bJ:W3.there (b0+1) 0 (#[.string b.kind,.string b.name,.slice va b.lines.length vc]:Array Value).size:=aX fG.out.own _ _ (by simp);obtain⟨we,aZ⟩:∃ we,we=W3.setCells (b0+1) 0 [.string b.kind,.string b.name,.slice va b.lines.length vc]:=⟨_,rfl⟩
    have dP:we.rangeAt (b0+1) 0 [.string b.kind,.string b.name,.slice va b.lines.length vc]:=by rw[aZ];exact World.rangeAt_setCells_same _ _ _ _ bJ
    have gT:Hid (Marks (fun b=>b=b0+1) W3 we):=by show Marks _ _ _;rw[aZ];exact bf (S:=fun b=>b=b0+1) rfl _ _ _
    have xz:=eD.out.lt;have xa:=eD.out.at_;go_wp2_with (first|(refine wpList_load_mid rfl 58 _ rfl b0 0 rfl [.string b.kind,.string b.name,.slice va b.lines.length vc] _ xa Tryz.underlying58 rfl (by kernel_rfl) ?_)|(refine wpList_store_mid rfl 58 _ _ rfl (b0+1) 0 #[.string b.kind,.string b.name,.slice va b.lines.length vc] rfl rfl bJ (by kernel_rfl) (by simp[Value.oneCell']) ?_))
    first|rw[← aZ]|(simp only[Xi];rw[← aZ])
    try simp only[Act.put,so,As,An]
    refine bodyPost_ret (v:=.tuple #[.agg #[.string b.kind,.string b.name,.slice va b.lines.length vc],.int .i64 6]) (by simp[results,Tryz.results17,asAddr,run_loadVar_mid (P:=Tryz.prog) _ _ _ 58 [.string b.kind,.string b.name,.slice va b.lines.length vc] _ dP Tryz.underlying58 rfl (by kernel_rfl)]) rfl ?_;have hz:=fZ.out;refine⟨[.string b.kind,.string b.name,.slice va b.lines.length vc],by rw[HE.out];rfl, ?_,gT.out.below (fun b e=>by omega) HB.out⟩;rw[DK.out];exact Dat.back (fH (HD.out.cO gT.out fun b e=>by omega)) (by have:=mP.out;omega)
   have d2:¬ ((0:Int)<(c2:Int)):=by omega
   have ld:Hid (Pl.bX b ws=if decide (0<c1)&& !((Pl.ah b.kind).getD j Pl.bu).many then 6 else if 10≤c1 then 10 else 0):=by show _=_;rw[Az.out,Qi,if_neg (by decide),decide_eq_false Cj,Bool.false_or]
   clear Az;by_cases kj:0<c1
   rotate_left
   ·have d1:¬ ((0:Int)<(c1:Int)):=by omega
    have Ay:Hid (Pl.bX b ws=0):=by show _=_;rw[ld.out,decide_eq_false kj,Bool.false_and,if_neg (by decide),if_neg (by omega)]
    have d3:¬ ((10:Int)≤(c1:Int)):=by omega
    obtain⟨W5,My⟩:∃ W5,W5=W3:=⟨_,rfl⟩
    rw[← My]at HB eD fG HD HQ wQ ⊢;clear My;go_upto_region 12 with fail
    clear d1 d2 d3;have xz:=eD.out.lt;have xa:=eD.out.at_;have qz:=HQ.out.own.lt;have qa:=HQ.out.at_;have OY:Hid (Calls Tryz.prog 27 #[.agg #[.string b.kind,.string b.name,.slice va b.lines.length vc],.agg #[.string k0,.slice a3 m c3]] W5 (GD (fun q=>(S q∧q<B)∨lo≤q) b0 (b0+2) aq (blD ⟨b.kind,b.name,Pl.bS b.kind b.lines x⟩) W5)):=by
     have:=kS (S:=(fun q=>(S q∧q<B)∨lo≤q)) (B:=b0) (lo:=b0+2) b ⟨k0,ts⟩ (.slice va b.lines.length vc) (.slice a3 m c3) W5 HD.out (by show Dat _ _ _ _ _ [.row ts.length _] _;rw[zi.out];exact wQ.out) hl (by have:=fG.out.own.lt;omega);rw[← K9.out]at this;have Aw:x.key=k0:=by rw[K9.out]
     rw[Aw]at this;exact this
    go_wp2_with (first|(refine wpList_load_mid rfl 58 _ rfl b0 0 rfl [.string b.kind,.string b.name,.slice va b.lines.length vc] _ xa Tryz.underlying58 rfl (by kernel_rfl) ?_)|(refine wpList_load_mid rfl 41 _ rfl q 0 rfl [.string k0,.slice a3 m c3] _ qa Tryz.underlying41 rfl (by kernel_rfl) ?_))
    refine OY.out.mono ?_;rintro e W6 ⟨cc,rfl,S8,hb⟩;obtain⟨a5,m5,lN,I1⟩:=jy S8;subst lN;have Vy:=uh I1;replace HB:=uh (ae HB.out hb)
    replace eD:=uh (eD.out.later hb)
    replace fG:=uh (fG.out.later hb)
    clear xz xa qz qa OY S8 I1 hb;have HE:=Ay;have DK:Hid (Pl.bK b ws=⟨b.kind,b.name,Pl.bS b.kind b.lines x⟩):=by show _=_;unfold Pl.bK;rw[if_pos HE.out,tm.out]
    have bJ:W6.there (b0+1) 0 (#[.string b.kind,.string b.name,.slice a5 (Pl.bS b.kind b.lines x).length m5]:Array Value).size:=aX fG.out.own _ _ (by simp);obtain⟨we,aZ⟩:∃ we,we=W6.setCells (b0+1) 0 [.string b.kind,.string b.name,.slice a5 (Pl.bS b.kind b.lines x).length m5]:=⟨_,rfl⟩
    have dP:we.rangeAt (b0+1) 0 [.string b.kind,.string b.name,.slice a5 (Pl.bS b.kind b.lines x).length m5]:=by rw[aZ];exact World.rangeAt_setCells_same _ _ _ _ bJ
    have gT:Hid (Marks (fun b=>b=b0+1) W6 we):=by show Marks _ _ _;rw[aZ];exact bf (S:=fun b=>b=b0+1) rfl _ _ _
    have xz:=eD.out.lt;have xa:=eD.out.at_;go_wp2_with (first|(refine wpList_load_mid rfl 58 _ rfl b0 0 rfl [.string b.kind,.string b.name,.slice va b.lines.length vc] _ xa Tryz.underlying58 rfl (by kernel_rfl) ?_)|(refine wpList_store_mid rfl 58 _ _ rfl (b0+1) 0 #[.string b.kind,.string b.name,.slice a5 (Pl.bS b.kind b.lines x).length m5] rfl rfl bJ (by kernel_rfl) (by simp[Value.oneCell']) ?_))
    first|rw[← aZ]|(simp only[Xi];rw[← aZ])
    try simp only[Act.put,so,As,An]
    refine bodyPost_ret (v:=.tuple #[.agg #[.string b.kind,.string b.name,.slice a5 (Pl.bS b.kind b.lines x).length m5],.int .i64 0]) (by simp[results,Tryz.results17,asAddr,run_loadVar_mid (P:=Tryz.prog) _ _ _ 58 [.string b.kind,.string b.name,.slice a5 (Pl.bS b.kind b.lines x).length m5] _ dP Tryz.underlying58 rfl (by kernel_rfl)]) rfl ?_;have hz:=fZ.out;refine⟨[.string b.kind,.string b.name,.slice a5 (Pl.bS b.kind b.lines x).length m5],by rw[HE.out];rfl, ?_,gT.out.below (fun b e=>by omega) HB.out⟩;rw[DK.out];exact Dat.back (fH (Vy.out.cO gT.out fun b e=>by omega)) (by have:=mP.out;omega)
   have d1:(0:Int)<(c1:Int):=by omega
   have xz:=eD.out.lt;have x0:=eD.out.get 0 _ rfl;have lH:=uh (dW b.kind W3);go_wp2_with fail
   refine lH.out.mono ?_;rintro e W4 ⟨rv,RF,rfl,rep,nd,fr,hb⟩;obtain⟨rp,ro,rc,r1,rc1,rv3,hv,hp,hg,_,_⟩:=gD rep.raw (Pl.iV hj);subst hv;replace HB:=uh (ae HB.out hb)
   replace eD:=uh (eD.out.later hb)
   replace fG:=uh (fG.out.later hb)
   replace HD:=uh (HD.out.later hb)
   replace HQ:=uh (HQ.out.later hb)
   replace wQ:=uh (wQ.out.later hb)
   clear rep nd fr hb xz x0 lH;have pV:=aF hg 2 _ rfl;have DW:(0:Int)≤(j:Int):=by omega
   have wH:(j:Int)<((Pl.ah b.kind).length:Int):=by have:=Pl.iV hj;omega
   obtain⟨mn,mL⟩:∃ mn,mn=((Pl.ah b.kind).getD j Pl.bu).many:=⟨_,rfl⟩
   rw[← mL]at pV ld;clear mL hg;cases mn
   ·
    go_upto_region 9 with fail
    have HE:Hid (Pl.bX b ws=6):=by show _=_;rw[ld.out,decide_eq_true kj];rfl
    have DK:Hid (Pl.bK b ws=b):=by show _=_;unfold Pl.bK;rw[HE.out];rfl
    have bJ:W4.there (b0+1) 0 (#[.string b.kind,.string b.name,.slice va b.lines.length vc]:Array Value).size:=aX fG.out.own _ _ (by simp);obtain⟨we,aZ⟩:∃ we,we=W4.setCells (b0+1) 0 [.string b.kind,.string b.name,.slice va b.lines.length vc]:=⟨_,rfl⟩
    have dP:we.rangeAt (b0+1) 0 [.string b.kind,.string b.name,.slice va b.lines.length vc]:=by rw[aZ];exact World.rangeAt_setCells_same _ _ _ _ bJ
    have gT:Hid (Marks (fun b=>b=b0+1) W4 we):=by show Marks _ _ _;rw[aZ];exact bf (S:=fun b=>b=b0+1) rfl _ _ _
    have xz:=eD.out.lt;have xa:=eD.out.at_;go_wp2_with (first|(refine wpList_load_mid rfl 58 _ rfl b0 0 rfl [.string b.kind,.string b.name,.slice va b.lines.length vc] _ xa Tryz.underlying58 rfl (by kernel_rfl) ?_)|(refine wpList_store_mid rfl 58 _ _ rfl (b0+1) 0 #[.string b.kind,.string b.name,.slice va b.lines.length vc] rfl rfl bJ (by kernel_rfl) (by simp[Value.oneCell']) ?_))
    first|rw[← aZ]|(simp only[Xi];rw[← aZ])
    try simp only[Act.put,so,As,An]
    refine bodyPost_ret (v:=.tuple #[.agg #[.string b.kind,.string b.name,.slice va b.lines.length vc],.int .i64 6]) (by simp[results,Tryz.results17,asAddr,run_loadVar_mid (P:=Tryz.prog) _ _ _ 58 [.string b.kind,.string b.name,.slice va b.lines.length vc] _ dP Tryz.underlying58 rfl (by kernel_rfl)]) rfl ?_;have hz:=fZ.out;refine⟨[.string b.kind,.string b.name,.slice va b.lines.length vc],by rw[HE.out];rfl, ?_,gT.out.below (fun b e=>by omega) HB.out⟩;rw[DK.out];exact Dat.back (fH (HD.out.cO gT.out fun b e=>by omega)) (by have:=mP.out;omega)
   have kY:Hid (Pl.bX b ws=if 10≤c1 then 10 else 0):=by show _=_;rw[ld.out,decide_eq_true kj];rfl
   by_cases Et:10≤c1
   ·have d3:(10:Int)≤(c1:Int):=by omega
    go_upto_region 11 with fail
    have HE:Hid (Pl.bX b ws=10):=by show _=_;rw[kY.out,if_pos Et]
    have DK:Hid (Pl.bK b ws=b):=by show _=_;unfold Pl.bK;rw[HE.out];rfl
    have bJ:W4.there (b0+1) 0 (#[.string b.kind,.string b.name,.slice va b.lines.length vc]:Array Value).size:=aX fG.out.own _ _ (by simp);obtain⟨we,aZ⟩:∃ we,we=W4.setCells (b0+1) 0 [.string b.kind,.string b.name,.slice va b.lines.length vc]:=⟨_,rfl⟩
    have dP:we.rangeAt (b0+1) 0 [.string b.kind,.string b.name,.slice va b.lines.length vc]:=by rw[aZ];exact World.rangeAt_setCells_same _ _ _ _ bJ
    have gT:Hid (Marks (fun b=>b=b0+1) W4 we):=by show Marks _ _ _;rw[aZ];exact bf (S:=fun b=>b=b0+1) rfl _ _ _
    have xz:=eD.out.lt;have xa:=eD.out.at_;go_wp2_with (first|(refine wpList_load_mid rfl 58 _ rfl b0 0 rfl [.string b.kind,.string b.name,.slice va b.lines.length vc] _ xa Tryz.underlying58 rfl (by kernel_rfl) ?_)|(refine wpList_store_mid rfl 58 _ _ rfl (b0+1) 0 #[.string b.kind,.string b.name,.slice va b.lines.length vc] rfl rfl bJ (by kernel_rfl) (by simp[Value.oneCell']) ?_))
    first|rw[← aZ]|(simp only[Xi];rw[← aZ])
    try simp only[Act.put,so,As,An]
    refine bodyPost_ret (v:=.tuple #[.agg #[.string b.kind,.string b.name,.slice va b.lines.length vc],.int .i64 10]) (by simp[results,Tryz.results17,asAddr,run_loadVar_mid (P:=Tryz.prog) _ _ _ 58 [.string b.kind,.string b.name,.slice va b.lines.length vc] _ dP Tryz.underlying58 rfl (by kernel_rfl)]) rfl ?_;have hz:=fZ.out;refine⟨[.string b.kind,.string b.name,.slice va b.lines.length vc],by rw[HE.out];rfl, ?_,gT.out.below (fun b e=>by omega) HB.out⟩;rw[DK.out];exact Dat.back (fH (HD.out.cO gT.out fun b e=>by omega)) (by have:=mP.out;omega)
   have d3:¬ ((10:Int)≤(c1:Int)):=by omega
   have Ay:Hid (Pl.bX b ws=0):=by show _=_;rw[kY.out,if_neg Et]
   obtain⟨W5,My⟩:∃ W5,W5=W4:=⟨_,rfl⟩
   rw[← My]at HB eD fG HD HQ wQ hp pV ⊢;clear My;go_upto_region 12 with fail
   clear d1 d2 d3 hp pV DW wH;have xz:=eD.out.lt;have xa:=eD.out.at_;have qz:=HQ.out.own.lt;have qa:=HQ.out.at_;have OY:Hid (Calls Tryz.prog 27 #[.agg #[.string b.kind,.string b.name,.slice va b.lines.length vc],.agg #[.string k0,.slice a3 m c3]] W5 (GD (fun q=>(S q∧q<B)∨lo≤q) b0 (b0+2) aq (blD ⟨b.kind,b.name,Pl.bS b.kind b.lines x⟩) W5)):=by
    have:=kS (S:=(fun q=>(S q∧q<B)∨lo≤q)) (B:=b0) (lo:=b0+2) b ⟨k0,ts⟩ (.slice va b.lines.length vc) (.slice a3 m c3) W5 HD.out (by show Dat _ _ _ _ _ [.row ts.length _] _;rw[zi.out];exact wQ.out) hl (by have:=fG.out.own.lt;omega);rw[← K9.out]at this;have Aw:x.key=k0:=by rw[K9.out]
    rw[Aw]at this;exact this
   go_wp2_with (first|(refine wpList_load_mid rfl 58 _ rfl b0 0 rfl [.string b.kind,.string b.name,.slice va b.lines.length vc] _ xa Tryz.underlying58 rfl (by kernel_rfl) ?_)|(refine wpList_load_mid rfl 41 _ rfl q 0 rfl [.string k0,.slice a3 m c3] _ qa Tryz.underlying41 rfl (by kernel_rfl) ?_))
   refine OY.out.mono ?_;rintro e W6 ⟨cc,rfl,S8,hb⟩;obtain⟨a5,m5,lN,I1⟩:=jy S8;subst lN;have Vy:=uh I1;replace HB:=uh (ae HB.out hb)
   replace eD:=uh (eD.out.later hb)
   replace fG:=uh (fG.out.later hb)
   clear xz xa qz qa OY S8 I1 hb;have HE:=Ay;have DK:Hid (Pl.bK b ws=⟨b.kind,b.name,Pl.bS b.kind b.lines x⟩):=by show _=_;unfold Pl.bK;rw[if_pos HE.out,tm.out]
   have bJ:W6.there (b0+1) 0 (#[.string b.kind,.string b.name,.slice a5 (Pl.bS b.kind b.lines x).length m5]:Array Value).size:=aX fG.out.own _ _ (by simp);obtain⟨we,aZ⟩:∃ we,we=W6.setCells (b0+1) 0 [.string b.kind,.string b.name,.slice a5 (Pl.bS b.kind b.lines x).length m5]:=⟨_,rfl⟩
   have dP:we.rangeAt (b0+1) 0 [.string b.kind,.string b.name,.slice a5 (Pl.bS b.kind b.lines x).length m5]:=by rw[aZ];exact World.rangeAt_setCells_same _ _ _ _ bJ
   have gT:Hid (Marks (fun b=>b=b0+1) W6 we):=by show Marks _ _ _;rw[aZ];exact bf (S:=fun b=>b=b0+1) rfl _ _ _
   have xz:=eD.out.lt;have xa:=eD.out.at_;go_wp2_with (first|(refine wpList_load_mid rfl 58 _ rfl b0 0 rfl [.string b.kind,.string b.name,.slice va b.lines.length vc] _ xa Tryz.underlying58 rfl (by kernel_rfl) ?_)|(refine wpList_store_mid rfl 58 _ _ rfl (b0+1) 0 #[.string b.kind,.string b.name,.slice a5 (Pl.bS b.kind b.lines x).length m5] rfl rfl bJ (by kernel_rfl) (by simp[Value.oneCell']) ?_))
   first|rw[← aZ]|(simp only[Xi];rw[← aZ])
   try simp only[Act.put,so,As,An]
   refine bodyPost_ret (v:=.tuple #[.agg #[.string b.kind,.string b.name,.slice a5 (Pl.bS b.kind b.lines x).length m5],.int .i64 0]) (by simp[results,Tryz.results17,asAddr,run_loadVar_mid (P:=Tryz.prog) _ _ _ 58 [.string b.kind,.string b.name,.slice a5 (Pl.bS b.kind b.lines x).length m5] _ dP Tryz.underlying58 rfl (by kernel_rfl)]) rfl ?_;have hz:=fZ.out;refine⟨[.string b.kind,.string b.name,.slice a5 (Pl.bS b.kind b.lines x).length m5],by rw[HE.out];rfl, ?_,gT.out.below (fun b e=>by omega) HB.out⟩;rw[DK.out];exact Dat.back (fH (Vy.out.cO gT.out fun b e=>by omega)) (by have:=mP.out;omega)
namespace RY
theorem Db {P:Program} {id:Nat} {Q:Exit→Act→World→Prop} {a0:Act} {w:World} {l:List Oper} (v:World) (hv:Bel v w)
  (V:Nat→Value→World→Prop) (hVm:∀ j u W W',Bel W W'→V j u W→V j u W')
  (K:(Nat→Value)→World→Prop) (n fuel:Nat) (hKe:∀ f g W,(∀ j,j<n→f j=g j)→K f W→K g W)
  (hm:P.follows .mixedOrders=true) (hasc:asc .any l.toArray=true) (hap:ek l=true) (eH:eN l a0.tmps.size=true)
  (hlen:l.length=n+2) (D:List Nat) (hD:(D.all fun d=>decide (d<n)&&waits l n d)=true)
  (hclo:((List.range n).all fun i=>(clo l fuel D).contains i)=true)
  (oS:Oper) (hS:l[n]? =some oS) (hSd:oS.dst=none)
  (km:((l.take n).all fun o=>o.dst.isSome)=true)
  (oE:Oper) (hE:l[n+1]? =some oE) (hEd:oE.dst.isSome=true) (uE:Value) (hEr:∀ (a:Act) (W:World),(execOp a.eval oE).run P W=.ok (.value uE) W)
  (ij:∀ (i:Nat) (o:Oper),l[i]? =some o→i<n→∀ (a:Act) (W:World),Bel v W→(∀ k,ew l k=true→a.eval (.tmp k)=a0.eval (.tmp k))→
   (∀ (j:Nat) (o':Oper) (k:Nat),l[j]? =some o'→o'.dst=some k→(∃ e∈o.after,e.on=j∧Region.binds .any e=true)→j<n→V j (a.eval (.tmp k)) W)→
   (∃ u W',(execOp a.eval o).run P W=.ok (.value u) W'∧Bel W W'∧V i u W')∨
   (∃ f args,(execOp a.eval o).run P W=.ok (.enter f args) W∧Calls P f args W fun e W'=>∃ u,e=.returned u∧Bel W W'∧V i u W'))
  (hfin:∀ (a:Act) (W:World) (vals:Nat→Value),Bel v W→(∀ k,ew l k=true→a.eval (.tmp k)=a0.eval (.tmp k))→(∀ j,j<n→V j (vals j) W)→
   (∀ (j:Nat) (o':Oper) (k:Nat),l[j]? =some o'→o'.dst=some k→(∃ e∈oS.after,e.on=j∧Region.binds .any e=true)→j<n→a.eval (.tmp k)=vals j)→
   ∃ W',(execOp a.eval oS).run P W=.ok .skip W'∧K vals W')
  (hend:∀ (vals vs:Nat→Value) (W:World),K vals W→vals (n+1)=uE→(∀ (i:Nat) (o:Oper) (k:Nat),l[i]? =some o→o.dst=some k→vs k=vals i)→Q .normal (aC l a0 vs) W):
  (Code.region id l.toArray true).wp P Q a0 w:=by
 rw[Xu]at hD;refine jt (fun _ _=>True) (fun up vals W=>(up n=false→Bel v W∧∀ j,j<n→up j=true→V j (vals j) W)∧(up n=true→K vals W)∧(up (n+1)=true→vals (n+1)=uE)) hm hasc hap eH ?_ ?_ ?_
 ·intro vals;exact⟨fun _=>⟨XF hv,fun j _ h=>by simp at h⟩,fun h=>by simp at h,fun h=>by simp at h⟩
 ·intro up vals i o ho hi fT a W hk gQ hT;have uL:i<n+2:=by rw[← hlen];exact(Xn.1 ho).1
  have oV:(∀ d∈D,up d=true)→∀ j,j<n→up j=true:=fun h j hj=>by
   rw[Xu]at hclo;have:=hclo j (by simp;omega);exact gV fT fuel D h j (by simpa using this)
  have Rt:up n=true→∀ j,j<n→up j=true:=fun jr=>oV (fun d hd=>by
   have h2:=hD d hd;rw[Xj,decide_eq_true_eq]at h2;obtain⟨e,he,nT,nU⟩:=bj h2.2 hS;rw[← nT];exact fT n oS e hS he nU jr)
  by_cases hiE:i=n+1
  ·subst hiE;obtain rfl:o=oE:=Option.some.inj (ho.symm.trans hE);refine No ⟨uE,W,hEr a W,hEd,trivial,fun h=> ?_,fun h=> ?_,fun _=>by simp⟩
   ·have hn:up n=false:=by simpa using h
    obtain⟨h1,h2⟩:=hT.1 hn;refine⟨h1,fun j hj hu=> ?_⟩;have e:¬ j=n+1:=by omega
    have hu:up j=true:=by simpa [e]using hu
    simp only[e,if_false];exact h2 j hj hu
   ·have hn:up n=true:=by simpa using h
    refine hKe vals _ W (fun j hj=> ?_) (hT.2.1 hn);have e:¬ j=n+1:=by omega
    simp only[e,if_false]
  by_cases jr:up n=true
  ·exfalso;have iN:i<n:=by
    rcases YB i n with h|h
    ·exact h
    ·have:i=n:=by omega
     rw[this,jr]at hi;cases hi
   rw[Rt jr i iN]at hi;cases hi
  ·have jr:up n=false:=by simpa using jr
   obtain⟨sS,hV⟩:=hT.1 jr;have fk:i<n→o.dst.isSome=true:=fun h=>by
    rw[Xu]at km;exact km _ (Xx (i:=i) (by rw[XM h];exact ho))
   by_cases iN:i<n
   ·have key:∀ u W',Bel W W'→V i u W'→((fun j=>(j==i)||up j) n=false→Bel v W'∧∀ j,j<n→(fun j=>(j==i)||up j) j=true→V j ((fun j=>if j=i then u else vals j) j) W')∧((fun j=>(j==i)||up j) n=true→K (fun j=>if j=i then u else vals j) W')∧((fun j=>(j==i)||up j) (n+1)=true→(fun j=>if j=i then u else vals j) (n+1)=uE):=fun u W' hW mM=>by
     refine⟨fun _=>⟨ae sS hW,fun j hj hu=> ?_⟩,fun h=> ?_,fun h=> ?_⟩
     ·by_cases e:j=i
      ·simp only[e,if_true];exact mM
      ·have hu:up j=true:=by simpa [e]using hu
       simp only[e,if_false];exact hVm _ _ _ _ hW (hV j hj hu)
     ·have:¬ n=i:=by omega
      have:up n=true:=by simpa [this]using h
      rw[jr]at this;cases this
     ·have e:¬ n+1=i:=by omega
      have:up (n+1)=true:=by simpa [e]using h
      simp only[e,if_false];exact hT.2.2 this
    rcases ij i o ho iN a W sS hk (fun j o' k hj iP hd lR=>by
      obtain⟨q1,q2,_⟩:=gQ j o' k hj iP hd;rw[q2];exact hV j lR q1) with⟨u,W',hr,hW,mM⟩|⟨f,args,hr,hc⟩
    ·exact No ⟨u,W',hr,fk iN,trivial,key u W' hW mM⟩
    ·refine Xk (Xk ⟨f,args,hr,fk iN,hc.mono ?_⟩);rintro e W' ⟨u,rfl,hW,mM⟩;exact⟨u,rfl,trivial,key u W' hW mM⟩
   ·obtain rfl:i=n:=by omega
    rw[hS]at ho;injection ho with ho
    subst ho;have jM:∀ j,j<i→up j=true:=oV fun d hd=>by
     have h2:=hD d hd;rw[Xj,decide_eq_true_eq]at h2;obtain⟨e,he,nT,nU⟩:=bj h2.2 hS;have kk:d<l.length:=by rw[hlen];omega
     have hq:(l[d]).dst.isSome=true:=by
      rw[Xu]at km;exact km _ (Xx (i:=d) (by rw[XM h2.1];simp))
     obtain⟨k,iP⟩:=XR.1 hq;exact(gQ d l[d] k (by simp) iP ⟨e,he,nT,nU⟩).1
    obtain⟨W',hr,hK⟩:=hfin a W vals sS hk (fun j hj=>hV j hj (jM j hj)) (fun j o' k hj iP hd lR=>(gQ j o' k hj iP hd).2.1);refine Xk (No ⟨W',hr,hSd,fun h=>by simp at h,fun _=>hK,fun h=> ?_⟩);have e:¬ i+1=i:=by omega
    exact hT.2.2 (by simpa [e]using h)
 ·intro up vals vs W bA iH hT;exact hend vals vs W (hT.2.1 (bA n (by omega))) (hT.2.2 (bA (n+1) (by omega))) (fun i o k hi hd=>(iH i o k hi hd).1)
end RY
namespace Pl
def ed (s:List Bl) (ws:List ByteArray):Nat:=
 if ws.length≠2 then 2 else if (ah (ws.getD 0 aJ)).length=0 then 3 else if bE (ws.getD 1 aJ)=false then 4
 else if (di s (ws.getD 0 aJ) (ws.getD 1 aJ)).isSome then 9 else if 60≤s.length then 10 else 0
def dZ (s:List Bl) (ws:List ByteArray):Bl:=if ed s ws=0 then ⟨ws.getD 0 aJ,ws.getD 1 aJ,[]⟩ else ⟨{data:=#[]},{data:=#[]},[]⟩
end Pl
theorem KR {o:Option Nat}:(decide ((0:Int)≤Pl.ixI o))=o.isSome:=by
 cases o with
 |none=>rfl
 |some n=>exact decide_eq_true (by show (0:Int)≤(n:Int);omega)
def VBa (p:Nat) (o:Nat) (wc:Nat) (vc:Nat) (va:Option Addr) (s:List Pl.Bl) (k0:ByteArray) (k1:ByteArray):Nat→Value→World→Prop
 |0,vv,_=>vv=.agg #[.slice va s.length vc]
 |1,vv,_|4,vv,_=>vv=.slice (some ⟨p,o,none⟩) 2 wc
 |2,vv,_=>vv=.pointer (some ⟨p,o,none⟩)
 |3,vv,_=>vv=.string k0
 |5,vv,_=>vv=.pointer (some ⟨p,o+1,none⟩)
 |6,vv,_=>vv=.string k1
 |7,vv,_=>vv=.int .i64 (Pl.ixI (Pl.di s k0 k1))
 |8,vv,_=>vv=.bool (Pl.di s k0 k1).isSome
 |_,_,_=>True
theorem Fq (p:Nat) (o:Nat) (wc:Nat) (vc:Nat) (va:Option Addr) (s:List Pl.Bl) (k0:ByteArray) (k1:ByteArray):∀ jj vv W W',Bel W W'→VBa p o wc vc va s k0 k1 jj vv W→VBa p o wc vc va s k0 k1 jj vv W':=by
 intro jj vv W W' hb h;match jj with
 |0|1|2|3|4|5|6|7|8=>exact h
 |n+9=>exact trivial
def VBb (p:Nat) (o:Nat) (wc:Nat) (k0:ByteArray) (k1:ByteArray):Nat→Value→World→Prop
 |0,vv,_|3,vv,_=>vv=.slice (some ⟨p,o,none⟩) 2 wc
 |1,vv,_=>vv=.pointer (some ⟨p,o,none⟩)
 |2,vv,_=>vv=.string k0
 |4,vv,_=>vv=.pointer (some ⟨p,o+1,none⟩)
 |5,vv,_=>vv=.string k1
 |6,vv,_=>vv=.agg #[.string k0,.string k1,.slice none 0 0]
 |_,_,_=>True
theorem Ft (p:Nat) (o:Nat) (wc:Nat) (k0:ByteArray) (k1:ByteArray):∀ jj vv W W',Bel W W'→VBb p o wc k0 k1 jj vv W→VBb p o wc k0 k1 jj vv W':=by
 intro jj vv W W' hb h;match jj with
 |0|1|2|3|4|5|6=>exact h
 |n+7=>exact trivial
theorem Df (s:List Pl.Bl) (ws:List ByteArray) (lv wv:Value) (w:World) (h:Raw w bL [cq s] [lv]) (hx:Raw w bm [.row ws.length (txD ws)] [wv]) (hl:s.length≤4194304) (hz:∀ x∈ws,x.size≤maxLen):
  Calls Tryz.prog 18 #[.agg #[lv],wv] w fun e w'=>e=.returned (.tuple #[.agg #[.string (Pl.dZ s ws).kind,.string (Pl.dZ s ws).name,.slice none 0 0],.int .i64 (Pl.ed s ws:Nat)])∧Bel w w':=by
 have HL:=uh h;have HX:=uh hx;have Q5:=uh hz;obtain⟨va,vc,ev⟩:=h.aT;subst ev;obtain⟨xa,wc,ev⟩:=hx.aT;subst ev;clear h hx hz;obtain⟨w0,iQ⟩:∃ w0,w0=(w.alloc (.cells #[.slice va s.length vc] 26)).alloc (.cells #[.string {data:=#[]},.string {data:=#[]},.slice none 0 0] 58):=⟨_,rfl⟩
 obtain⟨b0,aU⟩:∃ b0,b0=w.heap.size:=⟨_,rfl⟩
 have fZ:=uh aU;have HB:Hid (Bel w w0):=by show Below _ _ _;rw[iQ];exact af (af zR _) _
 have eD:Hid (au w0 b0 [.slice va s.length vc]):=by show au _ _ _;rw[iQ,aU];exact(au.new w #[.slice va s.length vc] _ _ rfl).eO _
 have fG:Hid (aA w0 (b0+1) 58 [.string {data:=#[]},.string {data:=#[]},.slice none 0 0]):=by show aA _ _ _ _;rw[iQ,aU];exact aA.new (w.alloc (.cells #[.slice va s.length vc] 26)) [.string {data:=#[]},.string {data:=#[]},.slice none 0 0] 58 _ (by simp)
 go_enter Tryz.func18,Tryz.ntmps18
 go_upto_region 1 with fail
 rw[← iQ,← aU];clear iQ aU;by_cases fw:ws.length=2
 rotate_left
 ·have d0:((ws.length:Int) !=2)=true:=by simp;omega
  have HE:Hid (Pl.ed s ws=2):=by show _=_;unfold Pl.ed;rw[if_pos fw]
  have bJ:w0.there (b0+1) 0 (#[.string {data:=#[]},.string {data:=#[]},.slice none 0 0]:Array Value).size:=aX fG.out.own _ _ (by simp);obtain⟨we,aZ⟩:∃ we,we=w0.setCells (b0+1) 0 [.string {data:=#[]},.string {data:=#[]},.slice none 0 0]:=⟨_,rfl⟩
  have dP:we.rangeAt (b0+1) 0 [.string {data:=#[]},.string {data:=#[]},.slice none 0 0]:=by rw[aZ];exact World.rangeAt_setCells_same _ _ _ _ bJ
  have fm:Hid (Bel w we):=by show Below _ _ _;rw[aZ];exact bW (by have:=fZ.out;omega) _ _ _ HB.out
  go_wp2_with (refine wpList_store_mid rfl 58 _ _ rfl (b0+1) 0 #[.string {data:=#[]},.string {data:=#[]},.slice none 0 0] rfl rfl bJ (by kernel_rfl) (by simp[Value.oneCell']) ?_)
  first|rw[← aZ]|(simp only[Xi];rw[← aZ])
  try simp only[Act.put,so,As,An]
  refine bodyPost_ret (v:=.tuple #[.agg #[.string {data:=#[]},.string {data:=#[]},.slice none 0 0],.int .i64 2]) (by simp[results,Tryz.results18,asAddr,run_loadVar_mid (P:=Tryz.prog) _ _ _ 58 [.string {data:=#[]},.string {data:=#[]},.slice none 0 0] _ dP Tryz.underlying58 rfl (by kernel_rfl)]) rfl ?_;exact⟨by unfold Pl.dZ;rw[HE.out];rfl,fm.out⟩
 rcases dK HX.out with⟨e0,_⟩|⟨p,o,c,hv,hp,dR,aE⟩
 ·omega
 injection hv with g1 g2 g3
 subst g1;subst g3;have h0:=aE 0 (by omega);have h1:=aE 1 (by omega);obtain⟨k0,cZ⟩:∃ k0,k0=ws.getD 0 Pl.aJ:=⟨_,rfl⟩
 obtain⟨k1,D0⟩:∃ k1,k1=ws.getD 1 Pl.aJ:=⟨_,rfl⟩
 have jQ:Hid (k0.size≤maxLen∧k1.size≤maxLen):=by
  have e0:ws.getD 0 Pl.aJ=ws[0]:=by simp[fw]
  have e1:ws.getD 1 Pl.aJ=ws[1]:=by simp[fw]
  rw[cZ,D0,e0,e1];exact⟨Q5.out _ (Xq _),Q5.out _ (Xq _)⟩
 rw[← cZ]at h0;rw[← D0]at h1;have cU:Hid (w0.rangeAt p o [.string k0,.string k1]):=by
  show World.rangeAt _ _ _ _;refine aj (w:=w) (fun j v hv=> ?_) hp HB.out;match j,hv with
  |0,hv=>injection hv with hv;rw[← hv];exact h0
  |1,hv=>injection hv with hv;rw[← hv];exact h1
 have de:Hid (p<w0.heap.size):=zL hp HB.out.size;have Az:Hid (Pl.ed s ws=if (Pl.ah k0).length=0 then 3 else if Pl.bE k1=false then 4 else if (Pl.di s k0 k1).isSome then 9 else if 60≤s.length then 10 else 0):=by show _=_;unfold Pl.ed;rw[if_neg (by omega),← cZ,← D0]
 have Un:Hid (Pl.ed s ws=0→Pl.dZ s ws=⟨k0,k1,[]⟩):=fun e=>by unfold Pl.dZ;rw[if_pos e,cZ,D0]
 rw[fw];clear h0 h1 aE dR hp cZ D0;have d0:(((2:Nat):Int) !=2)=false:=by simp
 have yp:=de.out;have y0:=aF cU.out 0 _ rfl;rw[Nat.add_zero]at y0;have ld:=uh (dW k0 w0);go_wp2_with fail
 refine ld.out.mono ?_;rintro e w1 ⟨rv,RF,rfl,rep,nd,fr,hb⟩;obtain⟨ra,rc,SW⟩:=rep.raw.aT;subst SW;replace HB:=uh (ae HB.out hb)
 replace eD:=uh (eD.out.later hb)
 replace fG:=uh (fG.out.later hb)
 replace cU:=uh (aj cU.out de.out hb)
 replace de:=uh (zL de.out hb.size)
 clear rep nd fr hb yp y0 ld d0;by_cases sO:(Pl.ah k0).length=0
 ·have d1:(((Pl.ah k0).length:Int)==0)=true:=by rw[sO];rfl
  have HE:Hid (Pl.ed s ws=3):=by show _=_;rw[Az.out,if_pos sO]
  have bJ:w1.there (b0+1) 0 (#[.string {data:=#[]},.string {data:=#[]},.slice none 0 0]:Array Value).size:=aX fG.out.own _ _ (by simp);obtain⟨we,aZ⟩:∃ we,we=w1.setCells (b0+1) 0 [.string {data:=#[]},.string {data:=#[]},.slice none 0 0]:=⟨_,rfl⟩
  have dP:we.rangeAt (b0+1) 0 [.string {data:=#[]},.string {data:=#[]},.slice none 0 0]:=by rw[aZ];exact World.rangeAt_setCells_same _ _ _ _ bJ
  have fm:Hid (Bel w we):=by show Below _ _ _;rw[aZ];exact bW (by have:=fZ.out;omega) _ _ _ HB.out
  go_wp2_with (refine wpList_store_mid rfl 58 _ _ rfl (b0+1) 0 #[.string {data:=#[]},.string {data:=#[]},.slice none 0 0] rfl rfl bJ (by kernel_rfl) (by simp[Value.oneCell']) ?_)
  first|rw[← aZ]|(simp only[Xi];rw[← aZ])
  try simp only[Act.put,so,As,An]
  refine bodyPost_ret (v:=.tuple #[.agg #[.string {data:=#[]},.string {data:=#[]},.slice none 0 0],.int .i64 3]) (by simp[results,Tryz.results18,asAddr,run_loadVar_mid (P:=Tryz.prog) _ _ _ 58 [.string {data:=#[]},.string {data:=#[]},.slice none 0 0] _ dP Tryz.underlying58 rfl (by kernel_rfl)]) rfl ?_;exact⟨by unfold Pl.dZ;rw[HE.out];rfl,fm.out⟩
 have d1:(((Pl.ah k0).length:Int)==0)=false:=by rw[beq_eq_false_iff_ne];omega
 have yp:=de.out;have y1:=aF cU.out 1 _ rfl;have ld:=uh (mC k1 w1 jQ.out.2);go_wp2_with fail
 refine ld.out.mono ?_;rintro e w2 ⟨rfl,rfl⟩;clear yp y1 ld d1;cases uS:Pl.bE k1
 ·
  have HE:Hid (Pl.ed s ws=4):=by show _=_;rw[Az.out,if_neg sO,if_pos uS]
  have bJ:w1.there (b0+1) 0 (#[.string {data:=#[]},.string {data:=#[]},.slice none 0 0]:Array Value).size:=aX fG.out.own _ _ (by simp);obtain⟨we,aZ⟩:∃ we,we=w1.setCells (b0+1) 0 [.string {data:=#[]},.string {data:=#[]},.slice none 0 0]:=⟨_,rfl⟩
  have dP:we.rangeAt (b0+1) 0 [.string {data:=#[]},.string {data:=#[]},.slice none 0 0]:=by rw[aZ];exact World.rangeAt_setCells_same _ _ _ _ bJ
  have fm:Hid (Bel w we):=by show Below _ _ _;rw[aZ];exact bW (by have:=fZ.out;omega) _ _ _ HB.out
  go_wp2_with (refine wpList_store_mid rfl 58 _ _ rfl (b0+1) 0 #[.string {data:=#[]},.string {data:=#[]},.slice none 0 0] rfl rfl bJ (by kernel_rfl) (by simp[Value.oneCell']) ?_)
  first|rw[← aZ]|(simp only[Xi];rw[← aZ])
  try simp only[Act.put,so,As,An]
  refine bodyPost_ret (v:=.tuple #[.agg #[.string {data:=#[]},.string {data:=#[]},.slice none 0 0],.int .i64 4]) (by simp[results,Tryz.results18,asAddr,run_loadVar_mid (P:=Tryz.prog) _ _ _ 58 [.string {data:=#[]},.string {data:=#[]},.slice none 0 0] _ dP Tryz.underlying58 rfl (by kernel_rfl)]) rfl ?_;exact⟨by unfold Pl.dZ;rw[HE.out];rfl,fm.out⟩
 obtain⟨wr,y8⟩:∃ wr,wr=w1:=⟨_,rfl⟩
 rw[← y8]at HB eD fG cU de ⊢;clear y8;have hgq:(decide ((0:Int)≤Pl.ixI (Pl.di s k0 k1)))=(Pl.di s k0 k1).isSome:=KR;have nN:=uh (fun (X:World) (hX:Bel wr X)=>rU s (.slice va s.length vc) k0 k1 X ((HL.out.later HB.out).later hX));go_upto_region 7 with fail
 refine RY.bs wr zR (VBa p o wc vc va s k0 k1) (Fq _ _ _ _ _ _ _ _) (by kernel_rfl) (by kernel_rfl) (by kernel_rfl) (by kernel_rfl) ?_ ?_
 ·intro ii o' ho a X hX hk hd;have zb0:=eD.out.later hX;have zb0l:=zb0.lt;match ii,ho with
  |0,rfl=>
   have v2:a.eval (.tmp 2)=.pointer (some ⟨b0,0,none⟩):=(hk 2 (by kernel_rfl)).trans rfl;exact No ⟨_,X,ak 26 _ rfl b0 0 v2 [.slice va s.length vc] _ zb0.at_ Tryz.underlying26 rfl (by kernel_rfl),zR,rfl⟩
  |1,rfl|4,rfl=>
   exact RY.p (.slice (some ⟨p,o,none⟩) 2 wc) (by simp[execOp,go_sem,RY.K hk 1 (.slice (some ⟨p,o,none⟩) 2 wc)])
  |2,rfl=>
   exact RY.p (.pointer (some ⟨p,o,none⟩)) (by simp[execOp,go_sem,RY.E hd 1 24])
  |3,rfl=>
   have e25:=RY.E hd 2 25;have ypl_:=zL de.out hX.size;have ycl_:X.cell? ⟨p,o,none⟩=some (.string k0):=by have q:=aF (aj cU.out de.out hX) 0 _ rfl;simpa using q
   exact RY.p (.string k0) (by simp[execOp,go_sem,e25,ycl_])
  |5,rfl=>
   exact RY.p (.pointer (some ⟨p,o+1,none⟩)) (by simp[execOp,go_sem,RY.E hd 4 27])
  |6,rfl=>
   have e28:=RY.E hd 5 28;have ypl_:=zL de.out hX.size;have ycl_:X.cell? ⟨p,o+1,none⟩=some (.string k1):=by have q:=aF (aj cU.out de.out hX) 1 _ rfl;simpa using q
   exact RY.p (.string k1) (by simp[execOp,go_sem,e28,ycl_])
  |7,rfl=>
   have e23:=RY.E hd 0 23;have e26:=RY.E hd 3 26;have e29:=RY.E hd 6 29;refine Xk ⟨22,#[.agg #[.slice va s.length vc],.string k0,.string k1],by simp[go_sem,e23,e26,e29],(nN.out X hX).mono ?_⟩;rintro e W' ⟨rfl,hb⟩;exact⟨_,rfl,hb,rfl⟩
  |8,rfl=>
   exact RY.p (.bool (Pl.di s k0 k1).isSome) (by simp[execOp,go_sem,RY.E hd 7 30,hgq])
  |n+9,ho=>simp at ho
 intro X vs hX bn;have q31:vs 31=_:=bn 8 _ 31 rfl rfl;simp only[RY.aC,Act.put,so,As,An];rw[q31];generalize vs 23=s23,vs 24=s24,vs 25=s25,vs 26=s26,vs 27=s27,vs 28=s28,vs 29=s29,vs 30=s30;clear bn q31;replace HB:=uh (ae HB.out hX)
 replace eD:=uh (eD.out.later hX)
 replace fG:=uh (fG.out.later hX)
 replace cU:=uh (aj cU.out de.out hX)
 replace de:=uh (zL de.out hX.size)
 clear hX nN hgq;cases JG:(Pl.di s k0 k1).isSome
 rotate_left
 ·
  have HE:Hid (Pl.ed s ws=9):=by show _=_;rw[Az.out,if_neg sO,uS,if_neg (by decide),JG];rfl
  have bJ:X.there (b0+1) 0 (#[.string {data:=#[]},.string {data:=#[]},.slice none 0 0]:Array Value).size:=aX fG.out.own _ _ (by simp);obtain⟨we,aZ⟩:∃ we,we=X.setCells (b0+1) 0 [.string {data:=#[]},.string {data:=#[]},.slice none 0 0]:=⟨_,rfl⟩
  have dP:we.rangeAt (b0+1) 0 [.string {data:=#[]},.string {data:=#[]},.slice none 0 0]:=by rw[aZ];exact World.rangeAt_setCells_same _ _ _ _ bJ
  have fm:Hid (Bel w we):=by show Below _ _ _;rw[aZ];exact bW (by have:=fZ.out;omega) _ _ _ HB.out
  go_wp2_with (refine wpList_store_mid rfl 58 _ _ rfl (b0+1) 0 #[.string {data:=#[]},.string {data:=#[]},.slice none 0 0] rfl rfl bJ (by kernel_rfl) (by simp[Value.oneCell']) ?_)
  first|rw[← aZ]|(simp only[Xi];rw[← aZ])
  try simp only[Act.put,so,As,An]
  refine bodyPost_ret (v:=.tuple #[.agg #[.string {data:=#[]},.string {data:=#[]},.slice none 0 0],.int .i64 9]) (by simp[results,Tryz.results18,asAddr,run_loadVar_mid (P:=Tryz.prog) _ _ _ 58 [.string {data:=#[]},.string {data:=#[]},.slice none 0 0] _ dP Tryz.underlying58 rfl (by kernel_rfl)]) rfl ?_;exact⟨by unfold Pl.dZ;rw[HE.out];rfl,fm.out⟩
 have x0:=eD.out.get 0 _ rfl;have xl:=eD.out.lt;by_cases hs60:60≤s.length
 ·have d3:(60:Int)≤(s.length:Int):=by omega
  have HE:Hid (Pl.ed s ws=10):=by show _=_;rw[Az.out,if_neg sO,uS,if_neg (by decide),JG,if_neg (by decide),if_pos hs60]
  have bJ:X.there (b0+1) 0 (#[.string {data:=#[]},.string {data:=#[]},.slice none 0 0]:Array Value).size:=aX fG.out.own _ _ (by simp);obtain⟨we,aZ⟩:∃ we,we=X.setCells (b0+1) 0 [.string {data:=#[]},.string {data:=#[]},.slice none 0 0]:=⟨_,rfl⟩
  have dP:we.rangeAt (b0+1) 0 [.string {data:=#[]},.string {data:=#[]},.slice none 0 0]:=by rw[aZ];exact World.rangeAt_setCells_same _ _ _ _ bJ
  have fm:Hid (Bel w we):=by show Below _ _ _;rw[aZ];exact bW (by have:=fZ.out;omega) _ _ _ HB.out
  go_wp2_with (refine wpList_store_mid rfl 58 _ _ rfl (b0+1) 0 #[.string {data:=#[]},.string {data:=#[]},.slice none 0 0] rfl rfl bJ (by kernel_rfl) (by simp[Value.oneCell']) ?_)
  first|rw[← aZ]|(simp only[Xi];rw[← aZ])
  try simp only[Act.put,so,As,An]
  refine bodyPost_ret (v:=.tuple #[.agg #[.string {data:=#[]},.string {data:=#[]},.slice none 0 0],.int .i64 10]) (by simp[results,Tryz.results18,asAddr,run_loadVar_mid (P:=Tryz.prog) _ _ _ 58 [.string {data:=#[]},.string {data:=#[]},.slice none 0 0] _ dP Tryz.underlying58 rfl (by kernel_rfl)]) rfl ?_;exact⟨by unfold Pl.dZ;rw[HE.out];rfl,fm.out⟩
 have HE:Hid (Pl.ed s ws=0):=by show _=_;rw[Az.out,if_neg sO,uS,if_neg (by decide),JG,if_neg (by decide),if_neg hs60]
 have d3:¬ ((60:Int)≤(s.length:Int)):=by omega
 go_upto_region 11 with fail
 clear x0 xl d3;obtain⟨Y,hY⟩:∃ Y,Y=X:=⟨_,rfl⟩
 rw[← hY]at HB eD fG cU de ⊢;clear hY;refine RY.Db Y zR (VBb p o wc k0 k1) (Ft _ _ _ _ _) (fun _ W'=>W'.rangeAt (b0+1) 0 [.string k0,.string k1,.slice none 0 0]∧Bel w W') 7 12 (fun _ _ _ _ h=>h) (by kernel_rfl) (by kernel_rfl) (by kernel_rfl) (by kernel_rfl) rfl [6] (by kernel_rfl) (by kernel_rfl) _ rfl rfl (by kernel_rfl) _ rfl rfl (.int .i64 0) (fun a W=>by simp[execOp,go_sem]) ?_ ?_ ?_
 ·intro ii o' ho wJ a X hX hk hd;match ii,ho with
  |0,rfl|3,rfl=>
   exact RY.p (.slice (some ⟨p,o,none⟩) 2 wc) (by simp[execOp,go_sem,RY.K hk 1 (.slice (some ⟨p,o,none⟩) 2 wc)])
  |1,rfl=>
   exact RY.p (.pointer (some ⟨p,o,none⟩)) (by simp[execOp,go_sem,RY.E1 hd 0 38])
  |2,rfl=>
   have e39:=RY.E1 hd 1 39;have ypl_:=zL de.out hX.size;have ycl_:X.cell? ⟨p,o,none⟩=some (.string k0):=by have q:=aF (aj cU.out de.out hX) 0 _ rfl;simpa using q
   exact RY.p (.string k0) (by simp[execOp,go_sem,e39,ycl_])
  |4,rfl=>
   exact RY.p (.pointer (some ⟨p,o+1,none⟩)) (by simp[execOp,go_sem,RY.E1 hd 3 41])
  |5,rfl=>
   have e42:=RY.E1 hd 4 42;have ypl_:=zL de.out hX.size;have ycl_:X.cell? ⟨p,o+1,none⟩=some (.string k1):=by have q:=aF (aj cU.out de.out hX) 1 _ rfl;simpa using q
   exact RY.p (.string k1) (by simp[execOp,go_sem,e42,ycl_])
  |6,rfl=>
   exact RY.p (.agg #[.string k0,.string k1,.slice none 0 0]) (by simp[execOp,go_sem,RY.E1 hd 2 40,RY.E1 hd 5 43])
  |n+7,ho=>omega
 ·intro a X vals hX hk hV hd;have e2:a.eval (.tmp 44)=_:=(hd 6 _ 44 rfl rfl ⟨⟨6,.data⟩,by simp,rfl,rfl⟩ (by decide)).trans (hV 6 (by decide));have t4:a.eval (.tmp 4)=.pointer (some ⟨b0+1,0,none⟩):=(hk 4 (by kernel_rfl)).trans rfl;have iR:=fG.out.later hX;have bJ:X.there (b0+1) 0 3:=aX iR.own _ _ (by simp);exact⟨X.setCells (b0+1) 0 [.string k0,.string k1,.slice none 0 0],RY.dM _ _ _ rfl t4 e2 bJ (by kernel_rfl) (by simp[Value.oneCell']),World.rangeAt_setCells_same _ _ _ _ bJ,bW (by have:=fZ.out;omega) _ _ _ (ae HB.out hX)⟩
 ·intro vals vs X hK hE bn;simp only[RY.aC,Act.put,so,As,An];have q5:=(bn 8 _ 5 rfl rfl).trans hE;rw[q5];generalize vs 38=mT,vs 39=nW,vs 40=s40,vs 41=s41,vs 42=s42,vs 43=s43,vs 44=s44;clear bn hE q5;obtain⟨dP,hBB⟩:=hK;have fm:=uh hBB;clear hBB;go_wp2;refine bodyPost_ret (v:=.tuple #[.agg #[.string k0,.string k1,.slice none 0 0],.int .i64 0]) (by simp[results,Tryz.results18,asAddr,run_loadVar_mid (P:=Tryz.prog) _ _ _ 58 [.string k0,.string k1,.slice none 0 0] _ dP Tryz.underlying58 rfl (by kernel_rfl)]) rfl ?_;rw[Un.out HE.out,HE.out];exact⟨rfl,fm.out⟩
theorem nj:∀ (n:Nat) (l:List UInt8) (m:Nat),l.length≤n→m≤8→∀ ws,Pl.bo l m=some ws→m+ws.length≤8
 |0,[],m,_,hm,ws,h=>by rw[Pl.bo]at h;injection h with h;subst h;simpa using hm
 |n+1,[],m,_,hm,ws,h=>by rw[Pl.bo]at h;injection h with h;subst h;simpa using hm
 |n+1,c::r,m,hl,hm,ws,h=>by
  rw[Xm]at hl;rw[Pl.bo]at h;split at h
  ·exact nj n r m (by omega) hm ws h
  ·split at h
   ·injection h with h;subst h;simpa using hm
   ·split at h
    ·cases h
    ·rename_i x k _
     split at h
     ·rename_i hc
      simp only[Xj,decide_eq_true_eq]at hc;obtain⟨y,h1,h2⟩:=XH.1 h;subst h2;have:=nj n (r.drop k) (m+1) (by rw[Xy];omega) (by omega) y h1;simp only[Xm];omega
     ·cases h
end Go.Proofs.YtgiglpnaekbegaaGreatDoor
namespace Go.Proofs.YtgiglpnaekbegaaGreatDoor.Pl
theorem lB:∀ (n:Nat) (l:List UInt8) (m:Nat),l.length≤n→∀ ws,bo l m=some ws→∀ w∈ws,w.size≤200
 |0,[],m,_,ws,h=>by rw[bo]at h;injection h with h;subst h;intro w hw;cases hw
 |n+1,[],m,_,ws,h=>by rw[bo]at h;injection h with h;subst h;intro w hw;cases hw
 |n+1,c::r,m,hl,ws,h=>by
  rw[Xm]at hl;rw[bo]at h;split at h
  ·exact lB n r m (by omega) ws h
  ·split at h
   ·injection h with h;subst h;intro w hw;cases hw
   ·split at h
    ·cases h
    ·rename_i x k _
     split at h
     ·rename_i hc
      simp only[Xj,decide_eq_true_eq]at hc;obtain⟨y,h1,h2⟩:=XH.1 h;subst h2;intro w hw;rcases XD.1 hw with rfl|q
      ·show x.toArray.size≤200;simpa using hc.1.2
      ·exact lB n (r.drop k) (m+1) (by rw[Xy];omega) y h1 w q
     ·cases h
end Go.Proofs.YtgiglpnaekbegaaGreatDoor.Pl
namespace Go.Proofs.YtgiglpnaekbegaaGreatDoor
set_option maxRecDepth 8000
set_option maxHeartbeats 40000000
open Go.RowKit Go.Deep
namespace Pl
structure PS where
 acc:List Bl
 cur:Bl
 opn:Bool
def gq (st:PS) (ws:List ByteArray):Bool:=st.opn&&(decide (ws.length=1)&&((ws.getD 0 aJ).toList==[101,110,100]))
def cY (st:PS) (ws:List ByteArray):Nat:=
 if ws.length=0 then 0 else if gq st ws then 0 else if st.opn then bX st.cur ws else ed st.acc ws
def cn (st:PS) (ws:List ByteArray):PS:=
 if ws.length=0 then st else if gq st ws then ⟨eR st.acc st.cur,st.cur,false⟩ else if st.opn then ⟨st.acc,bK st.cur ws,true⟩ else ⟨st.acc,dZ st.acc ws,true⟩
def dw (st:PS) (l:ByteArray):Nat:=match bo l.data.toList 0 with
 |none=>1
 |some ws=>cY st ws
def gL (st:PS) (l:ByteArray):PS:=match bo l.data.toList 0 with
 |none=>st
 |some ws=>cn st ws
def parseFrom (st:PS):List ByteArray→Nat→List Bl×Nat×Nat
 |[],i=>if st.opn then ([],i+1,8) else (st.acc,0,0)
 |l::r,i=>if dw st l=0 then parseFrom (gL st l) r (i+1) else ([],i+1,dw st l)
def oJ:PS:=⟨[],⟨⟨#[]⟩,⟨#[]⟩,[]⟩,false⟩
def aI (t:ByteArray):List Bl×Nat×Nat:=
 if 20000<t.size then ([],0,11) else if 400<(fz t).length then ([],0,11) else parseFrom oJ (fz t) 0
structure OkP (n:Nat) (st:PS):Prop where
 al:st.acc.length≤n
 cl:st.cur.lines.length≤n
 cw:∀ x∈st.cur.lines,x.ws.length≤8
 aw:∀ b∈st.acc,b.lines.length≤n∧∀ x∈b.lines,x.ws.length≤8
theorem QU:OkP 0 oJ:=⟨zE,zE,(by simp[oJ]),(by simp[oJ])⟩
theorem OkP.up {n:Nat} {st:PS} (h:OkP n st):OkP (n+1) st:=⟨Nat.le_succ_of_le h.al,Nat.le_succ_of_le h.cl,h.cw,fun b hb=>⟨Nat.le_succ_of_le (h.aw b hb).1,(h.aw b hb).2⟩⟩
theorem xI (b:Bl) (ws:List ByteArray):(bK b ws).lines.length≤b.lines.length+1:=by
 unfold bK;split
 ·simp only;rw[uu];exact zE
 ·omega
theorem zV (b:Bl) (ws:List ByteArray) (hb:∀ x∈b.lines,x.ws.length≤8) (hw:ws.length≤8):∀ x∈(bK b ws).lines,x.ws.length≤8:=by
 unfold bK;split
 ·intro x hx;rcases(lz _ _ _ _).1 hx with e|e
  ·rw[e,bt,Xy];omega
  ·exact hb x e
 ·exact hb
theorem jX (s:List Bl) (ws:List ByteArray):(dZ s ws).lines=[]:=by unfold dZ;split<;>rfl
theorem OkP.words {n:Nat} {st:PS} (h:OkP n st) (ws:List ByteArray) (hw:ws.length≤8):OkP (n+1) (cn st ws):=by
 unfold cn;split
 ·exact h.up
 ·split
  ·refine⟨?_,Nat.le_succ_of_le h.cl,h.cw,fun b hb=> ?_⟩
   ·simp only;rw[Cx];have:=h.al;omega
   ·rcases(tN _ _ _).1 hb with e|e
    ·rw[e];exact⟨Nat.le_succ_of_le h.cl,h.cw⟩
    ·exact h.up.aw b e
  ·split
   ·exact⟨h.up.al,Xg (xI _ _) (by have:=h.cl;omega),zV _ _ h.cw hw,h.up.aw⟩
   ·refine⟨h.up.al, ?_, ?_,h.up.aw⟩
    ·simp only;rw[jX];simp
    ·simp only;rw[jX];simp
theorem oB (ls:List ByteArray) (k:Nat) (h:k<ls.length):ls.drop k=ls.getD k aJ::ls.drop (k+1):=by
 rw[XA h];simp[h]
theorem om:∀ (l acc:List UInt8) (x:List UInt8),x∈mf acc l→x.length≤acc.length+l.length
 |[],acc,x,h=>by
  rw[mf]at h;split at h
  ·cases h
  ·rw[Yc]at h;subst h;simp
 |c::l,acc,x,h=>by
  rw[mf]at h;split at h
  ·rcases XD.1 h with e|e
   ·subst e;omega
   ·have:=om l [] x e;simp only[Xm,XX]at*;omega
  ·have:=om l (acc++[c]) x h;simp only[At,Xm,XX]at*;omega
theorem uf (t x:ByteArray) (h:x∈fz t):x.size≤t.size:=by
 obtain⟨y,hy,e⟩:=YA.1 h;have:=om _ _ _ hy;rw[aD]at this;rw[← e];show y.toArray.size≤_;simpa using this
end Pl
def zu (o:List Pl.Bl×Nat×Nat) (W:World) (e:Ending) (w':World):Prop:=∃ c F,e=.returned (.tuple #[.agg c.toArray,.agg #[.int .i64 (o.2.1:Nat),.int .i64 (o.2.2:Nat)]])∧Rep w' false ee F [cq o.1] c∧F.Nodup∧(∀ b∈F,W.heap.size≤b)∧Bel W w'
theorem Dat.T4 {S T:Nat→Prop} {B lo:Nat} {W W':World} {sh:List Sh} {A:List Dt} {c:List Value} (h:Dat S B lo W sh A c) (hb:Marks T W W') (hT:∀ b,T b→¬ S b∧b<lo):Dat S B lo W' sh A c:=by
 obtain⟨F,r,f⟩:=h;refine⟨F,r.cO hb fun b gY e=> ?_,f⟩;have:=hT b e;rcases f b gY with q|q
 ·exact this.1 q.1
 ·omega
structure Pz (w:World) (b0 pb:Nat) (ls:List ByteArray) (lv:Value) (st:Pl.PS) (xv cv:Value) (W:World):Prop where
 bel:Bel w W
 res:aA W b0 26 [.slice none 0 0]
 flt:aA W (b0+1) 28 [.int .i64 0,.int .i64 0]
 s:aA W (b0+2) 26 [xv]
 b:aA W pb 58 [.string st.cur.kind,.string st.cur.name,cv]
 ln:Dat (fun b=>b0+2<b) pb (pb+1) W bm [.row ls.length (txD ls)] [lv]
 sd:Dat (fun _=>True) b0 (pb+1) W bL [cq st.acc] [xv]
 bd:Dat (fun _=>True) b0 (pb+1) W aV [bD st.cur.lines] [cv]
theorem Pz.later {w W W':World} {b0 pb:Nat} {ls:List ByteArray} {lv:Value} {st:Pl.PS} {xv cv:Value} (h:Pz w b0 pb ls lv st xv cv W) (hb:Bel W W'):Pz w b0 pb ls lv st xv cv W':=
 ⟨ae h.bel hb,h.res.later hb,h.flt.later hb,h.s.later hb,h.b.later hb,h.ln.later hb,h.sd.later hb,h.bd.later hb⟩
theorem Pz.T8 {w W:World} {b0 pb:Nat} {ls:List ByteArray} {lv:Value} {st:Pl.PS} {xv cv yv:Value} {acc:List Pl.Bl} {o:Bool} (h:Pz w b0 pb ls lv st xv cv W) (hz:b0=w.heap.size) (hp:b0+3≤pb) (hd:Dat (fun _=>True) b0 (pb+1) W bL [cq acc] [yv]):Pz w b0 pb ls lv ⟨acc,st.cur,o⟩ yv cv (W.setCells (b0+2) 0 [yv]):=by
 have hm:Marks (fun b=>b=b0+2) W (W.setCells (b0+2) 0 [yv]):=bf (S:=fun b=>b=b0+2) rfl _ _ _;exact⟨hm.below (fun b e=>by omega) h.bel,h.res.mks hm (by omega),h.flt.mks hm (by omega),⟨ig _ _ _ h.s.own,World.rangeAt_setCells_same _ _ _ _ (aX h.s.own _ _ (by simp))⟩,h.b.mks hm (by omega),h.ln.T4 hm (fun b e=>by omega),hd.cO hm (fun b e=>by omega),h.bd.cO hm (fun b e=>by omega)⟩
theorem Pz.NT {w W:World} {b0 pb:Nat} {ls:List ByteArray} {lv:Value} {st:Pl.PS} {xv cv yv:Value} {x:Pl.Bl} {o:Bool} (h:Pz w b0 pb ls lv st xv cv W) (hz:b0=w.heap.size) (hp:b0+3≤pb) (hd:Dat (fun _=>True) b0 (pb+1) W aV [bD x.lines] [yv]):Pz w b0 pb ls lv ⟨st.acc,x,o⟩ xv yv (W.setCells pb 0 [.string x.kind,.string x.name,yv]):=by
 have hm:Marks (fun b=>b=pb) W (W.setCells pb 0 [.string x.kind,.string x.name,yv]):=bf (S:=fun b=>b=pb) rfl _ _ _;exact⟨hm.below (fun b e=>by omega) h.bel,h.res.mks hm (by omega),h.flt.mks hm (by omega),h.s.mks hm (by omega),⟨ig _ _ _ h.b.own,World.rangeAt_setCells_same _ _ _ _ (aX h.b.own _ _ (by simp))⟩,h.ln.cO hm (fun b e=>by omega),h.sd.cO hm (fun b e=>by omega),hd.cO hm (fun b e=>by omega)⟩
theorem CZ {l:List UInt8} (h:Pl.bo l 0=none):nv l=[.row 0 [],.b true]:=by unfold nv;rw[h]
theorem C9 {l:List UInt8} {ws:List ByteArray} (h:Pl.bo l 0=some ws):nv l=[.row ws.length (txD ws),.b false]:=by unfold nv;rw[h]
theorem Pl.zt {st:Pl.PS} {x:ByteArray} (h:Pl.bo x.data.toList 0=none):Pl.dw st x=1:=by unfold Pl.dw;rw[h]
theorem Pl.Aj {st:Pl.PS} {x:ByteArray} {ws:List ByteArray} (h:Pl.bo x.data.toList 0=some ws):Pl.dw st x=Pl.cY st ws:=by unfold Pl.dw;rw[h]
theorem Pl.Ab {st:Pl.PS} {x:ByteArray} {ws:List ByteArray} (h:Pl.bo x.data.toList 0=some ws):Pl.gL st x=Pl.cn st ws:=by unfold Pl.gL;rw[h]
theorem Pl.Du {st:Pl.PS} {ws:List ByteArray} (hw:ws.length≠0) (he:Pl.gq st ws=true):Pl.cY st ws=0∧Pl.cn st ws=⟨Pl.eR st.acc st.cur,st.cur,false⟩:=by
 unfold Pl.cY Pl.cn;rw[if_neg hw,if_neg hw,if_pos he,if_pos he];exact⟨rfl,rfl⟩
theorem Pl.yk {st:Pl.PS} {ws:List ByteArray} (hw:ws.length≠0) (he:Pl.gq st ws=false) (ho:st.opn=true):Pl.cY st ws=Pl.bX st.cur ws∧Pl.cn st ws=⟨st.acc,Pl.bK st.cur ws,true⟩:=by
 unfold Pl.cY Pl.cn;rw[if_neg hw,if_neg hw,he,ho];exact⟨rfl,rfl⟩
theorem Pl.CJ {st:Pl.PS} {ws:List ByteArray} (hw:ws.length≠0) (ho:st.opn=false):Pl.cY st ws=Pl.ed st.acc ws∧Pl.cn st ws=⟨st.acc,Pl.dZ st.acc ws,true⟩:=by
 have he:Pl.gq st ws=false:=by unfold Pl.gq;rw[ho];rfl
 unfold Pl.cY Pl.cn;rw[if_neg hw,if_neg hw,he,ho];exact⟨rfl,rfl⟩
theorem iF {w W:World} {b0:Nat} {o:List Pl.Bl×Nat×Nat} (l c:Nat) (x y:List Value) (ho:o=([],l,c)) (hz:b0=w.heap.size) (hb:Bel w W):zu o w (.returned (.tuple #[.agg #[.slice none 0 0],.agg #[.int .i64 (l:Nat),.int .i64 (c:Nat)]])) ((W.setCells b0 0 x).setCells (b0+1) 0 y):=by
 subst ho;have h1:Marks (fun b=>b=b0) W (W.setCells b0 0 x):=bf (S:=fun b=>b=b0) rfl _ _ _;have h2:Marks (fun b=>b=b0+1) (W.setCells b0 0 x) ((W.setCells b0 0 x).setCells (b0+1) 0 y):=bf (S:=fun b=>b=b0+1) rfl _ _ _;exact⟨[.slice none 0 0],[],rfl,.emp _ _ _ rfl .nil,XL,by simp,h2.below (fun b e=>by omega) (h1.below (fun b e=>by omega) hb)⟩
theorem pk {W:World} {b0:Nat} {T1 T2:TypeId} {c d e:Value} (h1:aA W b0 T1 [c]) (h2:aA W (b0+1) T2 [d,e]) (x p q:Value):
  ∃ tj Er,Hid (tj=W.setCells b0 0 [x])∧Hid (Er=tj.setCells (b0+1) 0 [p,q])∧W.there b0 0 (#[x]:Array Value).size∧tj.there (b0+1) 0 (#[p,q]:Array Value).size∧Hid (Er.rangeAt b0 0 [x])∧Hid (Er.rangeAt (b0+1) 0 [p,q]):=by
 have t1:W.there b0 0 (#[x]:Array Value).size:=aX h1.own _ _ (by simp);have m1:Marks (fun b=>b=b0) W (W.setCells b0 0 [x]):=bf (S:=fun b=>b=b0) rfl _ _ _;have f1:=h2.mks m1 (by omega);have t2:(W.setCells b0 0 [x]).there (b0+1) 0 (#[p,q]:Array Value).size:=aX f1.own _ _ (by simp);have b1:aA (W.setCells b0 0 [x]) b0 T1 [x]:=⟨ig _ _ _ h1.own,World.rangeAt_setCells_same _ _ _ _ t1⟩
 have m2:Marks (fun b=>b=b0+1) (W.setCells b0 0 [x]) ((W.setCells b0 0 [x]).setCells (b0+1) 0 [p,q]):=bf (S:=fun b=>b=b0+1) rfl _ _ _;exact⟨_,_,rfl,rfl,t1,t2,(b1.mks m2 (by omega)).at_,World.rangeAt_setCells_same _ _ _ _ t2⟩
theorem pz (t:ByteArray) (w:World) (hs:t.size≤1048576):
  Calls Tryz.prog 6 #[.string t] w (zu (Pl.aI t) w):=by
 obtain⟨w0,iQ⟩:∃ w0,w0=(((w.alloc (.cells #[.slice none 0 0] 26)).alloc (.cells #[.int .i64 0,.int .i64 0] 28)).alloc (.cells #[.slice none 0 0] 26)).alloc (.cells #[] 9):=⟨_,rfl⟩
 obtain⟨b0,aU⟩:∃ b0,b0=w.heap.size:=⟨_,rfl⟩
 have fZ:=uh aU;have HB:Hid (Bel w w0):=by show Below _ _ _;rw[iQ];exact af (af (af (af zR _) _) _) _
 have fG:Hid (aA w0 b0 26 [.slice none 0 0]):=by show aA _ _ _ _;rw[iQ,aU];exact(((aA.new w [.slice none 0 0] 26 _ rfl).later (af zR _)).later (af zR _)).later (af zR _)
 have JD:Hid (aA w0 (b0+1) 28 [.int .i64 0,.int .i64 0]):=by show aA _ _ _ _;rw[iQ,aU];exact((aA.new (w.alloc (.cells #[.slice none 0 0] 26)) [.int .i64 0,.int .i64 0] 28 _ (by simp)).later (af zR _)).later (af zR _)
 have Ez:Hid (aA w0 (b0+2) 26 [.slice none 0 0]):=by show aA _ _ _ _;rw[iQ,aU];exact(aA.new ((w.alloc (.cells #[.slice none 0 0] 26)).alloc (.cells #[.int .i64 0,.int .i64 0] 28)) [.slice none 0 0] 26 _ (by simp)).later (af zR _)
 have UE:Hid (w0.heap.size=b0+4):=by show _=_;rw[iQ,aU];simp
 have HS:=uh hs;go_enter Tryz.func6,Tryz.ntmps6
 go_upto_region 3 with fail
 rw[← iQ,← aU];clear iQ aU;by_cases ht:t.size≤20000
 rotate_left
 ·have d0:¬ ((t.size:Int)≤20000):=by omega
  have d1:((20000:Int)<(t.size:Int)):=by omega
  have HE:Hid (Pl.aI t=([],0,11)):=by show _=_;unfold Pl.aI;rw[if_pos (by omega)]
  clear ht hs;obtain⟨tj,Er,gZ,iS,iI,mO,sQ,gR⟩:=pk (fG.out) (JD.out) (.slice none 0 0) (.int .i64 ((0:Nat):Int)) (.int .i64 ((11:Nat):Int));go_wp2_with (first|(refine wpList_store_mid rfl 26 _ _ rfl b0 0 #[.slice none 0 0] rfl rfl iI (by kernel_rfl) (by simp[Value.oneCell']) ?_;first|rw[← gZ.out]|(simp only[Xi];rw[← gZ.out]))|(refine wpList_store_mid rfl 28 _ _ rfl (b0+1) 0 #[.int .i64 ((0:Nat):Int),.int .i64 ((11:Nat):Int)] (by first|rfl|(simp[Act.eval]<;>go_num)) rfl mO (by kernel_rfl) (by simp[Value.oneCell']) ?_;first|rw[← iS.out]|(simp only[Xi];rw[← iS.out])))
  try simp only[Act.put,so,As,An]
  have jO:=sQ.out;have k4:=gR.out;refine bodyPost_ret (v:=.tuple #[.agg #[.slice none 0 0],.agg #[.int .i64 ((0:Nat):Int),.int .i64 ((11:Nat):Int)]]) (by simp[results,Tryz.results6,asAddr,run_loadVar_mid (P:=Tryz.prog) _ _ _ 26 [.slice none 0 0] _ jO Tryz.underlying26 rfl (by kernel_rfl),run_loadVar_mid (P:=Tryz.prog) _ _ _ 28 [.int .i64 ((0:Nat):Int),.int .i64 ((11:Nat):Int)] _ k4 Tryz.underlying28 rfl (by kernel_rfl)]) rfl ?_;rw[iS.out,gZ.out];exact iF (0) (11) _ _ HE.out fZ.out HB.out
 have d0:((t.size:Int)≤20000):=by omega
 have d1:¬ ((20000:Int)<(t.size:Int)):=by omega
 have HT:=uh ht;have HC:=uh (J8 t w0 hs);clear ht hs;go_wp2_with fail
 refine HC.out.mono ?_;rintro e w1 ⟨lv,LF,rfl,rep,nd,fr,hb⟩;obtain⟨ls,nK⟩:∃ ls,ls=Pl.fz t:=⟨_,rfl⟩
 rw[← nK]at rep;have SQ:=uh nK;obtain⟨la,lc,yL⟩:=rep.raw.aT;subst yL;have VJ:=uh rep;have HLF:=uh fr;have K3:Hid (b0+4≤w0.heap.size):=by show _≤_;have:=Ez.out.own.lt;have:=UE.out;omega
 replace HB:=uh (ae HB.out hb)
 replace fG:=uh (fG.out.later hb)
 replace JD:=uh (JD.out.later hb)
 replace Ez:=uh (Ez.out.later hb)
 clear rep nd fr hb nK HC;by_cases hn:ls.length≤400
 rotate_left
 ·have d2:((400:Int)<(ls.length:Int)):=by omega
  have HE:Hid (Pl.aI t=([],0,11)):=by show _=_;have:=HT.out;unfold Pl.aI;rw[if_neg (by omega),← SQ.out,if_pos (by omega)]
  clear hn;obtain⟨tj,Er,gZ,iS,iI,mO,sQ,gR⟩:=pk (fG.out) (JD.out) (.slice none 0 0) (.int .i64 ((0:Nat):Int)) (.int .i64 ((11:Nat):Int));go_wp2_with (first|(refine wpList_store_mid rfl 26 _ _ rfl b0 0 #[.slice none 0 0] rfl rfl iI (by kernel_rfl) (by simp[Value.oneCell']) ?_;first|rw[← gZ.out]|(simp only[Xi];rw[← gZ.out]))|(refine wpList_store_mid rfl 28 _ _ rfl (b0+1) 0 #[.int .i64 ((0:Nat):Int),.int .i64 ((11:Nat):Int)] (by first|rfl|(simp[Act.eval]<;>go_num)) rfl mO (by kernel_rfl) (by simp[Value.oneCell']) ?_;first|rw[← iS.out]|(simp only[Xi];rw[← iS.out])))
  try simp only[Act.put]
  have jO:=sQ.out;have k4:=gR.out;refine bodyPost_ret (v:=.tuple #[.agg #[.slice none 0 0],.agg #[.int .i64 ((0:Nat):Int),.int .i64 ((11:Nat):Int)]]) (by simp[results,Tryz.results6,asAddr,run_loadVar_mid (P:=Tryz.prog) _ _ _ 26 [.slice none 0 0] _ jO Tryz.underlying26 rfl (by kernel_rfl),run_loadVar_mid (P:=Tryz.prog) _ _ _ 28 [.int .i64 ((0:Nat):Int),.int .i64 ((11:Nat):Int)] _ k4 Tryz.underlying28 rfl (by kernel_rfl)]) rfl ?_;rw[iS.out,gZ.out];exact iF (0) (11) _ _ HE.out fZ.out HB.out
 have Ay:Hid (Pl.aI t=Pl.parseFrom Pl.oJ ls 0):=by show _=_;have:=HT.out;unfold Pl.aI;rw[if_neg (by omega),← SQ.out,if_neg (by omega)]
 have d2:¬ ((400:Int)<(ls.length:Int)):=by omega
 obtain⟨pb,Mw⟩:∃ pb,pb=w1.heap.size:=⟨_,rfl⟩
 have Es:Hid (b0+3≤pb):=by show _≤_;rw[Mw];exact Ez.out.own.lt
 obtain⟨wx,Lt⟩:∃ wx,wx=w1.alloc (.cells #[.string {data:=#[]},.string {data:=#[]},.slice none 0 0] 58):=⟨_,rfl⟩
 have fL:Bel w1 wx:=by rw[Lt];exact af zR _
 have H0:Hid (Pz w b0 pb ls (.slice la ls.length lc) Pl.oJ (.slice none 0 0) (.slice none 0 0) wx):=by
  show Pz _ _ _ _ _ _ _ _ _;refine⟨ae HB.out fL,fG.out.later fL,JD.out.later fL,Ez.out.later fL, ?_, ?_,vS,vS⟩
  ·rw[Lt];exact aA.new w1 [.string {data:=#[]},.string {data:=#[]},.slice none 0 0] 58 _ Mw
  ·exact⟨LF,VJ.out.later fL,fun b hb=>No ⟨by have:=HLF.out b hb;have:=K3.out;omega,by rw[Mw];exact VJ.out.lt b hb⟩⟩
 clear fL HB fG JD Ez VJ HLF K3;go_upto_region 9 with fail
 rw[← Lt,← Mw];clear Lt Mw d0 d1 d2;have HN:=uh hn;clear hn;go_wp2;go_loopw [6,8] (fun vo vi wr=>∃ (k:Nat) (st:Pl.PS) (xv cv:Value),k≤ls.length∧vo=.bool st.opn∧vi=.int .i64 k∧Pl.OkP k st∧Pl.parseFrom st (ls.drop k) k=Pl.aI t∧Pz w b0 pb ls (.slice la ls.length lc) st xv cv wr) (fun _ vi _=>ls.length - (intOf vi).toNat)
 case atStart=>exact⟨0,Pl.oJ,_,_,zN,rfl,rfl,Pl.QU,Ay.out.symm,H0.out⟩
 case round=>
  obtain⟨k,st,xv,cv,hk,rfl,rfl,hok,tx,hP⟩:=hrel;have HP:=uh hP;have jl:=uh hok;have AY:=uh tx;obtain⟨xa,xc,Qg⟩:=hP.sd.raw.aT;subst Qg;obtain⟨ca,cc,Qg⟩:=hP.bd.raw.aT;subst Qg;clear hP hok tx H0 Ay;by_cases bq:k<ls.length
  rotate_left
  ·obtain rfl:k=ls.length:=by omega
   have tB:¬ ((ls.length:Int)<(ls.length:Int)):=by omega
   have HQ:Hid (Pl.aI t=if st.opn then ([],ls.length+1,8) else (st.acc,0,0)):=by show _=_;rw[← AY.out,List.drop_length,Pl.parseFrom]
   clear bq hk AY;cases ij:st.opn
   ·rw[ij]at HQ;have xz:=HP.out.s.own.lt;have xa':=HP.out.s.at_;have Rp:=uh (nC st.acc (.slice xa st.acc.length xc) wr HP.out.sd.raw (by have:=jl.out.al;have:=HN.out;omega) (fun b hb=>⟨by have:=(jl.out.aw b hb).1;have:=HN.out;omega,fun x hx=>by have:=(jl.out.aw b hb).2 x hx;omega⟩));go_wp2_with (refine wpList_load_mid rfl 26 _ rfl (b0+2) 0 rfl [.slice xa st.acc.length xc] _ xa' Tryz.underlying26 rfl (by kernel_rfl) ?_)
    refine Rp.out.mono ?_;rintro e w2 ⟨c2,F2,rfl,rep,nd,fr,hb⟩;obtain⟨ya,yc,hc,_⟩:=tG (J9 (S:=fun _=>True) (B:=0) (lo:=0) rep (fun _ _=>zN));subst hc;have RP:=uh rep;have Ej:=uh nd;have qq:=uh fr;have Sf:=uh (HP.out.s.own.lt);replace HP:=uh (HP.out.later hb)
    clear rep nd fr hb Rp xz xa' tB;obtain⟨tj,Er,gZ,iS,iI,mO,sQ,gR⟩:=pk (HP.out.res) (HP.out.flt) (.slice ya st.acc.length yc) (.int .i64 ((0:Nat):Int)) (.int .i64 ((0:Nat):Int));go_wp2_with (first|(refine wpList_store_mid rfl 26 _ _ rfl b0 0 #[.slice ya st.acc.length yc] rfl rfl iI (by kernel_rfl) (by simp[Value.oneCell']) ?_;first|rw[← gZ.out]|(simp only[Xi];rw[← gZ.out]))|(refine wpList_store_mid rfl 28 _ _ rfl (b0+1) 0 #[.int .i64 ((0:Nat):Int),.int .i64 ((0:Nat):Int)] (by first|rfl|(simp[Act.eval]<;>go_num)) rfl mO (by kernel_rfl) (by simp[Value.oneCell']) ?_;first|rw[← iS.out]|(simp only[Xi];rw[← iS.out])))
    try simp only[Act.put]
    have jO:=sQ.out;have k4:=gR.out;refine bodyPost_ret (v:=.tuple #[.agg #[.slice ya st.acc.length yc],.agg #[.int .i64 ((0:Nat):Int),.int .i64 ((0:Nat):Int)]]) (by simp[results,Tryz.results6,asAddr,run_loadVar_mid (P:=Tryz.prog) _ _ _ 26 [.slice ya st.acc.length yc] _ jO Tryz.underlying26 rfl (by kernel_rfl),run_loadVar_mid (P:=Tryz.prog) _ _ _ 28 [.int .i64 ((0:Nat):Int),.int .i64 ((0:Nat):Int)] _ k4 Tryz.underlying28 rfl (by kernel_rfl)]) rfl ?_;have hz:=fZ.out;have eH:=Sf.out;have h1:Marks (fun b=>b=b0) w2 tj:=by rw[gZ.out];exact bf (S:=fun b=>b=b0) rfl _ _ _
    have h2:Marks (fun b=>b=b0+1) tj Er:=by rw[iS.out];exact bf (S:=fun b=>b=b0+1) rfl _ _ _
    have hq:=HQ.out;rw[hq];exact⟨[.slice ya st.acc.length yc],F2,rfl,(RP.out.cO h1 (fun b hb e=>by have:=qq.out b hb;omega)).cO h2 (fun b hb e=>by have:=qq.out b hb;omega),Ej.out,fun b hb=>by have:=qq.out b hb;omega,h2.below (fun b e=>by omega) (h1.below (fun b e=>by omega) HP.out.bel)⟩
   ·rw[ij]at HQ;obtain⟨tj,Er,gZ,iS,iI,mO,sQ,gR⟩:=pk (HP.out.res) (HP.out.flt) (.slice none 0 0) (.int .i64 ((ls.length+1:Nat):Int)) (.int .i64 ((8:Nat):Int));go_wp2_with (first|(refine wpList_store_mid rfl 26 _ _ rfl b0 0 #[.slice none 0 0] rfl rfl iI (by kernel_rfl) (by simp[Value.oneCell']) ?_;first|rw[← gZ.out]|(simp only[Xi];rw[← gZ.out]))|(refine wpList_store_mid rfl 28 _ _ rfl (b0+1) 0 #[.int .i64 ((ls.length+1:Nat):Int),.int .i64 ((8:Nat):Int)] (by first|rfl|(simp[Act.eval]<;>go_num)) rfl mO (by kernel_rfl) (by simp[Value.oneCell']) ?_;first|rw[← iS.out]|(simp only[Xi];rw[← iS.out])))
    try simp only[Act.put]
    have jO:=sQ.out;have k4:=gR.out;refine bodyPost_ret (v:=.tuple #[.agg #[.slice none 0 0],.agg #[.int .i64 ((ls.length+1:Nat):Int),.int .i64 ((8:Nat):Int)]]) (by simp[results,Tryz.results6,asAddr,run_loadVar_mid (P:=Tryz.prog) _ _ _ 26 [.slice none 0 0] _ jO Tryz.underlying26 rfl (by kernel_rfl),run_loadVar_mid (P:=Tryz.prog) _ _ _ 28 [.int .i64 ((ls.length+1:Nat):Int),.int .i64 ((8:Nat):Int)] _ k4 Tryz.underlying28 rfl (by kernel_rfl)]) rfl ?_;rw[iS.out,gZ.out];exact iF (ls.length+1) (8) _ _ HQ.out fZ.out HP.out.bel
  have HQ:Hid (Pl.aI t=if Pl.dw st (ls.getD k Pl.aJ)=0 then Pl.parseFrom (Pl.gL st (ls.getD k Pl.aJ)) (ls.drop (k+1)) (k+1) else ([],k+1,Pl.dw st (ls.getD k Pl.aJ))):=by show _=_;rw[← AY.out,Pl.oB ls k bq,Pl.parseFrom]
  obtain⟨x,hx⟩:∃ x,x=ls.getD k Pl.aJ:=⟨_,rfl⟩
  rw[← hx]at HQ;have LV:x.size≤1048576:=by
   have e:ls.getD k Pl.aJ=ls[k]:=by simp[bq]
   have hm:x∈Pl.fz t:=by rw[hx,e,← SQ.out];exact Xq _
   exact Xg (Pl.uf t x hm) HS.out
  rcases dK HP.out.ln.raw with⟨e0,_⟩|⟨p,o,c,hv,hp,dR,aE⟩
  ·omega
  injection hv with g1 g2 g3
  subst g1;subst g3;have y0:=aE k bq;rw[← hx]at y0;have cZ:(0:Int)≤(k:Int):=by omega
  have dy:(k:Int)<(ls.length:Int):=by omega
  have ld:=uh (xW x wr LV);clear hx LV aE dR AY;go_wp2_with fail
  refine ld.out.mono ?_;rintro e w3 ⟨c1,CF,rfl,rep,nd,fr,hb⟩;replace HP:=uh (HP.out.later hb)
  have lH:=uh rep.raw;clear rep nd fr hb ld y0 hp cZ dy;obtain⟨pq,Qb⟩:∃ pq,pq=w3.heap.size:=⟨_,rfl⟩
  cases hcut:Pl.bo x.data.toList 0 with
  |none=>
   rw[CZ hcut]at lH;obtain⟨v0,hc,sO⟩:=pe lH.out;subst hc;obtain⟨va,vc,hv⟩:=sO.aT;subst hv;have HE:Hid (Pl.aI t=([],k+1,1)):=by show _=_;rw[HQ.out,Pl.zt hcut];rfl
   obtain⟨wy,K0⟩:∃ wy,wy=w3.alloc (.cells #[.slice va 0 vc,.bool true] 60):=⟨_,rfl⟩
   have eS:Bel w3 wy:=by rw[K0];exact af zR _
   have Jr:Hid (aA wy pq 60 [.slice va 0 vc,.bool true]):=by show aA _ _ _ _;rw[K0];exact aA.new w3 _ 60 _ Qb
   replace HP:=uh (HP.out.later eS)
   clear eS hcut HQ lH sO;go_upto_region 16 with fail
   rw[← K0,← Qb];clear K0 Qb;have y1:=Jr.out.get 1 _ rfl;have yz:=Jr.out.own.lt;obtain⟨tj,Er,gZ,iS,iI,mO,sQ,gR⟩:=pk (HP.out.res) (HP.out.flt) (.slice none 0 0) (.int .i64 ((k+1:Nat):Int)) (.int .i64 ((1:Nat):Int));go_wp2_with (first|(refine wpList_store_mid rfl 26 _ _ rfl b0 0 #[.slice none 0 0] rfl rfl iI (by kernel_rfl) (by simp[Value.oneCell']) ?_;first|rw[← gZ.out]|(simp only[Xi];rw[← gZ.out]))|(refine wpList_store_mid rfl 28 _ _ rfl (b0+1) 0 #[.int .i64 ((k+1:Nat):Int),.int .i64 ((1:Nat):Int)] (by first|rfl|(simp[Act.eval]<;>go_num)) rfl mO (by kernel_rfl) (by simp[Value.oneCell']) ?_;first|rw[← iS.out]|(simp only[Xi];rw[← iS.out])))
   try simp only[Act.put]
   have jO:=sQ.out;have k4:=gR.out;refine bodyPost_ret (v:=.tuple #[.agg #[.slice none 0 0],.agg #[.int .i64 ((k+1:Nat):Int),.int .i64 ((1:Nat):Int)]]) (by simp[results,Tryz.results6,asAddr,run_loadVar_mid (P:=Tryz.prog) _ _ _ 26 [.slice none 0 0] _ jO Tryz.underlying26 rfl (by kernel_rfl),run_loadVar_mid (P:=Tryz.prog) _ _ _ 28 [.int .i64 ((k+1:Nat):Int),.int .i64 ((1:Nat):Int)] _ k4 Tryz.underlying28 rfl (by kernel_rfl)]) rfl ?_;rw[iS.out,gZ.out];exact iF (k+1) (1) _ _ HE.out fZ.out HP.out.bel
  |some ws=>
   have En:ws.length≤8:=by have:=nj x.data.toList.length x.data.toList 0 zE (by omega) ws hcut;omega
   have AW:=Pl.lB x.data.toList.length x.data.toList 0 zE ws hcut;have Sy:Hid (∀ y∈ws,y.size≤maxLen):=fun y hy=>Xg (AW y hy) (by decide);have RS:=uh (jl.out.words ws En);have Mh:Hid (Pl.aI t=if Pl.cY st ws=0 then Pl.parseFrom (Pl.cn st ws) (ls.drop (k+1)) (k+1) else ([],k+1,Pl.cY st ws)):=by show _=_;rw[HQ.out,Pl.Aj hcut,Pl.Ab hcut]
   rw[C9 hcut]at lH;obtain⟨v0,hc,sO⟩:=pe lH.out;subst hc;obtain⟨va,vc,hv⟩:=sO.aT;subst hv;obtain⟨wy,K0⟩:∃ wy,wy=w3.alloc (.cells #[.slice va ws.length vc,.bool false] 60):=⟨_,rfl⟩
   have eS:Bel w3 wy:=by rw[K0];exact af zR _
   have Jr:Hid (aA wy pq 60 [.slice va ws.length vc,.bool false]):=by show aA _ _ _ _;rw[K0];exact aA.new w3 _ 60 _ Qb
   have wI:=uh (sO.later eS);replace HP:=uh (HP.out.later eS)
   clear eS hcut HQ lH sO AW;go_upto_region 16 with fail
   rw[← K0,← Qb];clear K0 Qb;have y1:=Jr.out.get 1 _ rfl;have yz:=Jr.out.own.lt;have yw:=Jr.out.get 0 _ rfl;by_cases iQ:ws.length=0
   ·have d0:((ws.length:Int)==0)=true:=by rw[iQ];rfl
    have gX:Hid (Pl.cY st ws=0):=by show _=_;unfold Pl.cY;rw[if_pos iQ]
    have l4:Hid (Pl.cn st ws=st):=by show _=_;unfold Pl.cn;rw[if_pos iQ]
    go_upto_region 24 with fail
    clear y1 yz yw d0;go_wp2;go_roundw
    case rel=>exact⟨k+1,st,_,_,by omega,rfl,by go_num,by have:=RS.out;rw[l4.out]at this;exact this,by rw[Mh.out,if_pos gX.out,l4.out],HP.out⟩
    case measure=>simp[intOf];omega
   have d0:((ws.length:Int)==0)=false:=beq_eq_false_iff_ne.2 (by omega);go_upto_region 19 with fail
   clear d0 y1;cases ij:st.opn
   ·have HW:Hid (Pl.cY st ws=Pl.ed st.acc ws∧Pl.cn st ws=⟨st.acc,Pl.dZ st.acc ws,true⟩):=Pl.CJ iQ ij;have HL:Hid ((Pl.dZ st.acc ws).lines=[]):=Pl.jX _ _;have xz:=HP.out.s.own.lt;have xa':=HP.out.s.at_;have tw:=uh (Df st.acc ws (.slice xa st.acc.length xc) (.slice va ws.length vc) wy HP.out.sd.raw wI.out (by have:=jl.out.al;have:=HN.out;omega) Sy.out);go_wp2_with (refine wpList_load_mid rfl 26 _ rfl (b0+2) 0 rfl [.slice xa st.acc.length xc] _ xa' Tryz.underlying26 rfl (by kernel_rfl) ?_)
    refine tw.out.mono ?_;rintro e w4 ⟨rfl,hb⟩;obtain⟨bb,dG⟩:∃ bb,bb=Pl.dZ st.acc ws:=⟨_,rfl⟩
    obtain⟨cd,IV⟩:∃ cd,cd=Pl.ed st.acc ws:=⟨_,rfl⟩
    rw[← dG,← IV];rw[← dG]at HW HL;have gE:=uh IV;replace HP:=uh (HP.out.later hb)
    clear hb dG IV xz xa' yz yw tw;have bJ:w4.there pb 0 (#[.string bb.kind,.string bb.name,.slice none 0 0]:Array Value).size:=aX HP.out.b.own _ _ (by simp);obtain⟨we,aZ⟩:∃ we,we=w4.setCells pb 0 [.string bb.kind,.string bb.name,.slice none 0 0]:=⟨_,rfl⟩
    have fS:Hid (Pz w b0 pb ls (.slice (some ⟨p,o,none⟩) ls.length lc) ⟨st.acc,bb,true⟩ (.slice xa st.acc.length xc) (.slice none 0 0) we):=by show Pz _ _ _ _ _ _ _ _ _;rw[aZ];exact HP.out.NT fZ.out Es.out (by rw[HL.out];exact vS)
    have kx:=uh aZ;clear aZ;go_upto_region 24 with(refine wpList_store_mid rfl 58 _ _ rfl pb 0 #[.string bb.kind,.string bb.name,.slice none 0 0] rfl rfl bJ (by kernel_rfl) (by simp[Value.oneCell']) ?_;first|rw[← kx.out]|(simp only[Xi];rw[← kx.out]))
    clear bJ HP kx;by_cases hcz:cd=0
    ·have d3:(((cd:Nat):Int) !=0)=false:=by rw[hcz];rfl
     have gX:Hid (Pl.cY st ws=0):=by show _=_;rw[HW.out.1,← gE.out];exact hcz
     have l4:Hid (Pl.cn st ws=⟨st.acc,bb,true⟩):=HW.out.2;go_wp2;go_roundw
     case rel=>exact⟨k+1,⟨st.acc,bb,true⟩,_,_,by omega,rfl,by go_num,by have:=RS.out;rw[l4.out]at this;exact this,by rw[Mh.out,if_pos gX.out,l4.out],fS.out⟩
     case measure=>simp[intOf];omega
    ·have d3:(((cd:Nat):Int) !=0)=true:=by simp;omega
     have HE:Hid (Pl.aI t=([],k+1,cd)):=by show _=_;rw[Mh.out,HW.out.1,← gE.out,if_neg hcz]
     obtain⟨tj,Er,gZ,iS,iI,mO,sQ,gR⟩:=pk (fS.out.res) (fS.out.flt) (.slice none 0 0) (.int .i64 ((k+1:Nat):Int)) (.int .i64 ((cd:Nat):Int));go_wp2_with (first|(refine wpList_store_mid rfl 26 _ _ rfl b0 0 #[.slice none 0 0] rfl rfl iI (by kernel_rfl) (by simp[Value.oneCell']) ?_;first|rw[← gZ.out]|(simp only[Xi];rw[← gZ.out]))|(refine wpList_store_mid rfl 28 _ _ rfl (b0+1) 0 #[.int .i64 ((k+1:Nat):Int),.int .i64 ((cd:Nat):Int)] (by first|rfl|(simp[Act.eval]<;>go_num)) rfl mO (by kernel_rfl) (by simp[Value.oneCell']) ?_;first|rw[← iS.out]|(simp only[Xi];rw[← iS.out])))
     try simp only[Act.put]
     have jO:=sQ.out;have k4:=gR.out;refine bodyPost_ret (v:=.tuple #[.agg #[.slice none 0 0],.agg #[.int .i64 ((k+1:Nat):Int),.int .i64 ((cd:Nat):Int)]]) (by simp[results,Tryz.results6,asAddr,run_loadVar_mid (P:=Tryz.prog) _ _ _ 26 [.slice none 0 0] _ jO Tryz.underlying26 rfl (by kernel_rfl),run_loadVar_mid (P:=Tryz.prog) _ _ _ 28 [.int .i64 ((k+1:Nat):Int),.int .i64 ((cd:Nat):Int)] _ k4 Tryz.underlying28 rfl (by kernel_rfl)]) rfl ?_;rw[iS.out,gZ.out];exact iF (k+1) (cd) _ _ HE.out fZ.out fS.out.bel
   ·rcases dK wI.out with⟨e0,_⟩|⟨p2,o2,c2,hv,tA,dR,aE⟩
    ·omega
    injection hv with g1 g2 g3
    subst g1;subst g3;obtain⟨k0,cZ⟩:∃ k0,k0=ws.getD 0 Pl.aJ:=⟨_,rfl⟩
    have y2:=aE 0 (by omega);rw[← cZ,Nat.add_zero]at y2;have yp:=tA;clear aE dR tA;by_cases wj:ws.length=1
    rotate_left
    ·have d1:((ws.length:Int)==1)=false:=beq_eq_false_iff_ne.2 (by omega);have Pj:Hid (Pl.gq st ws=false):=by show _=_;unfold Pl.gq;rw[decide_eq_false wj];simp
     clear cZ;have HW:Hid (Pl.cY st ws=Pl.bX st.cur ws∧Pl.cn st ws=⟨st.acc,Pl.bK st.cur ws,true⟩):=Pl.yk iQ Pj.out ij;have xz:=HP.out.b.own.lt;have xa':=HP.out.b.at_;have tw:=uh (qO (S:=fun _=>True) (B:=b0) (lo:=pb+1) st.cur ws (.slice ca st.cur.lines.length cc) (.slice (some ⟨p2,o2,none⟩) ws.length vc) wy HP.out.bd wI.out (by omega) (by omega) Sy.out (by have:=jl.out.cl;have:=HN.out;omega) xz);skip
     go_wp2_with (refine wpList_load_mid rfl 58 _ rfl pb 0 rfl [.string st.cur.kind,.string st.cur.name,.slice ca st.cur.lines.length cc] _ xa' Tryz.underlying58 rfl (by kernel_rfl) ?_)
     refine tw.out.mono ?_;rintro e w4 ⟨c4,rfl,hD,hb⟩;obtain⟨bb,dG⟩:∃ bb,bb=Pl.bK st.cur ws:=⟨_,rfl⟩
     obtain⟨cd,IV⟩:∃ cd,cd=Pl.bX st.cur ws:=⟨_,rfl⟩
     rw[← IV];rw[← dG]at HW hD;obtain⟨ia,ic,hc,Jz⟩:=jy hD;subst hc;have gE:=uh IV;have sn:=uh Jz;replace HP:=uh (HP.out.later hb)
     clear hb dG IV xz xa' yz yw y2 yp tw hD Jz d1;have bJ:w4.there pb 0 (#[.string bb.kind,.string bb.name,.slice ia bb.lines.length ic]:Array Value).size:=aX HP.out.b.own _ _ (by simp);obtain⟨we,aZ⟩:∃ we,we=w4.setCells pb 0 [.string bb.kind,.string bb.name,.slice ia bb.lines.length ic]:=⟨_,rfl⟩
     have fS:Hid (Pz w b0 pb ls (.slice (some ⟨p,o,none⟩) ls.length lc) ⟨st.acc,bb,true⟩ (.slice xa st.acc.length xc) (.slice ia bb.lines.length ic) we):=by show Pz _ _ _ _ _ _ _ _ _;rw[aZ];exact HP.out.NT fZ.out Es.out sn.out
     have kx:=uh aZ;clear aZ;go_upto_region 24 with(refine wpList_store_mid rfl 58 _ _ rfl pb 0 #[.string bb.kind,.string bb.name,.slice ia bb.lines.length ic] rfl rfl bJ (by kernel_rfl) (by simp[Value.oneCell']) ?_;first|rw[← kx.out]|(simp only[Xi];rw[← kx.out]))
     clear bJ HP kx sn;by_cases hcz:cd=0
     ·have d3:(((cd:Nat):Int) !=0)=false:=by rw[hcz];rfl
      have gX:Hid (Pl.cY st ws=0):=by show _=_;rw[HW.out.1,← gE.out];exact hcz
      have l4:Hid (Pl.cn st ws=⟨st.acc,bb,true⟩):=HW.out.2;go_wp2;go_roundw
      case rel=>exact⟨k+1,⟨st.acc,bb,true⟩,_,_,by omega,rfl,by go_num,by have:=RS.out;rw[l4.out]at this;exact this,by rw[Mh.out,if_pos gX.out,l4.out],fS.out⟩
      case measure=>simp[intOf];omega
     ·have d3:(((cd:Nat):Int) !=0)=true:=by simp;omega
      have HE:Hid (Pl.aI t=([],k+1,cd)):=by show _=_;rw[Mh.out,HW.out.1,← gE.out,if_neg hcz]
      obtain⟨tj,Er,gZ,iS,iI,mO,sQ,gR⟩:=pk (fS.out.res) (fS.out.flt) (.slice none 0 0) (.int .i64 ((k+1:Nat):Int)) (.int .i64 ((cd:Nat):Int));go_wp2_with (first|(refine wpList_store_mid rfl 26 _ _ rfl b0 0 #[.slice none 0 0] rfl rfl iI (by kernel_rfl) (by simp[Value.oneCell']) ?_;first|rw[← gZ.out]|(simp only[Xi];rw[← gZ.out]))|(refine wpList_store_mid rfl 28 _ _ rfl (b0+1) 0 #[.int .i64 ((k+1:Nat):Int),.int .i64 ((cd:Nat):Int)] (by first|rfl|(simp[Act.eval]<;>go_num)) rfl mO (by kernel_rfl) (by simp[Value.oneCell']) ?_;first|rw[← iS.out]|(simp only[Xi];rw[← iS.out])))
      try simp only[Act.put]
      have jO:=sQ.out;have k4:=gR.out;refine bodyPost_ret (v:=.tuple #[.agg #[.slice none 0 0],.agg #[.int .i64 ((k+1:Nat):Int),.int .i64 ((cd:Nat):Int)]]) (by simp[results,Tryz.results6,asAddr,run_loadVar_mid (P:=Tryz.prog) _ _ _ 26 [.slice none 0 0] _ jO Tryz.underlying26 rfl (by kernel_rfl),run_loadVar_mid (P:=Tryz.prog) _ _ _ 28 [.int .i64 ((k+1:Nat):Int),.int .i64 ((cd:Nat):Int)] _ k4 Tryz.underlying28 rfl (by kernel_rfl)]) rfl ?_;rw[iS.out,gZ.out];exact iF (k+1) (cd) _ _ HE.out fZ.out fS.out.bel
    have d1:((ws.length:Int)==1)=true:=by rw[wj];rfl
    have d4:(0:Int)<(ws.length:Int):=by omega
    cases hke:(k0.toList==[101,110,100])
    ·have dE:(k0.toList==[101,110,100])=false:=hke;have Pj:Hid (Pl.gq st ws=false):=by show _=_;unfold Pl.gq;rw[← cZ,hke];simp
     clear cZ hke;have HW:Hid (Pl.cY st ws=Pl.bX st.cur ws∧Pl.cn st ws=⟨st.acc,Pl.bK st.cur ws,true⟩):=Pl.yk iQ Pj.out ij;have xz:=HP.out.b.own.lt;have xa':=HP.out.b.at_;have tw:=uh (qO (S:=fun _=>True) (B:=b0) (lo:=pb+1) st.cur ws (.slice ca st.cur.lines.length cc) (.slice (some ⟨p2,o2,none⟩) ws.length vc) wy HP.out.bd wI.out (by omega) (by omega) Sy.out (by have:=jl.out.cl;have:=HN.out;omega) xz);rw[wj]at tw;go_wp2_with (refine wpList_load_mid rfl 58 _ rfl pb 0 rfl [.string st.cur.kind,.string st.cur.name,.slice ca st.cur.lines.length cc] _ xa' Tryz.underlying58 rfl (by kernel_rfl) ?_)
     refine tw.out.mono ?_;rintro e w4 ⟨c4,rfl,hD,hb⟩;obtain⟨bb,dG⟩:∃ bb,bb=Pl.bK st.cur ws:=⟨_,rfl⟩
     obtain⟨cd,IV⟩:∃ cd,cd=Pl.bX st.cur ws:=⟨_,rfl⟩
     rw[← IV];rw[← dG]at HW hD;obtain⟨ia,ic,hc,Jz⟩:=jy hD;subst hc;have gE:=uh IV;have sn:=uh Jz;replace HP:=uh (HP.out.later hb)
     clear hb dG IV xz xa' yz yw y2 yp tw hD Jz d1 d4 dE wj;have bJ:w4.there pb 0 (#[.string bb.kind,.string bb.name,.slice ia bb.lines.length ic]:Array Value).size:=aX HP.out.b.own _ _ (by simp);obtain⟨we,aZ⟩:∃ we,we=w4.setCells pb 0 [.string bb.kind,.string bb.name,.slice ia bb.lines.length ic]:=⟨_,rfl⟩
     have fS:Hid (Pz w b0 pb ls (.slice (some ⟨p,o,none⟩) ls.length lc) ⟨st.acc,bb,true⟩ (.slice xa st.acc.length xc) (.slice ia bb.lines.length ic) we):=by show Pz _ _ _ _ _ _ _ _ _;rw[aZ];exact HP.out.NT fZ.out Es.out sn.out
     have kx:=uh aZ;clear aZ;go_upto_region 24 with(refine wpList_store_mid rfl 58 _ _ rfl pb 0 #[.string bb.kind,.string bb.name,.slice ia bb.lines.length ic] rfl rfl bJ (by kernel_rfl) (by simp[Value.oneCell']) ?_;first|rw[← kx.out]|(simp only[Xi];rw[← kx.out]))
     clear bJ HP kx sn;by_cases hcz:cd=0
     ·have d3:(((cd:Nat):Int) !=0)=false:=by rw[hcz];rfl
      have gX:Hid (Pl.cY st ws=0):=by show _=_;rw[HW.out.1,← gE.out];exact hcz
      have l4:Hid (Pl.cn st ws=⟨st.acc,bb,true⟩):=HW.out.2;go_wp2;go_roundw
      case rel=>exact⟨k+1,⟨st.acc,bb,true⟩,_,_,by omega,rfl,by go_num,by have:=RS.out;rw[l4.out]at this;exact this,by rw[Mh.out,if_pos gX.out,l4.out],fS.out⟩
      case measure=>simp[intOf];omega
     ·have d3:(((cd:Nat):Int) !=0)=true:=by simp;omega
      have HE:Hid (Pl.aI t=([],k+1,cd)):=by show _=_;rw[Mh.out,HW.out.1,← gE.out,if_neg hcz]
      obtain⟨tj,Er,gZ,iS,iI,mO,sQ,gR⟩:=pk (fS.out.res) (fS.out.flt) (.slice none 0 0) (.int .i64 ((k+1:Nat):Int)) (.int .i64 ((cd:Nat):Int));go_wp2_with (first|(refine wpList_store_mid rfl 26 _ _ rfl b0 0 #[.slice none 0 0] rfl rfl iI (by kernel_rfl) (by simp[Value.oneCell']) ?_;first|rw[← gZ.out]|(simp only[Xi];rw[← gZ.out]))|(refine wpList_store_mid rfl 28 _ _ rfl (b0+1) 0 #[.int .i64 ((k+1:Nat):Int),.int .i64 ((cd:Nat):Int)] (by first|rfl|(simp[Act.eval]<;>go_num)) rfl mO (by kernel_rfl) (by simp[Value.oneCell']) ?_;first|rw[← iS.out]|(simp only[Xi];rw[← iS.out])))
      try simp only[Act.put]
      have jO:=sQ.out;have k4:=gR.out;refine bodyPost_ret (v:=.tuple #[.agg #[.slice none 0 0],.agg #[.int .i64 ((k+1:Nat):Int),.int .i64 ((cd:Nat):Int)]]) (by simp[results,Tryz.results6,asAddr,run_loadVar_mid (P:=Tryz.prog) _ _ _ 26 [.slice none 0 0] _ jO Tryz.underlying26 rfl (by kernel_rfl),run_loadVar_mid (P:=Tryz.prog) _ _ _ 28 [.int .i64 ((k+1:Nat):Int),.int .i64 ((cd:Nat):Int)] _ k4 Tryz.underlying28 rfl (by kernel_rfl)]) rfl ?_;rw[iS.out,gZ.out];exact iF (k+1) (cd) _ _ HE.out fZ.out fS.out.bel
    ·have dE:(k0.toList==[101,110,100])=true:=hke;have Pj:Hid (Pl.gq st ws=true):=by show _=_;unfold Pl.gq;rw[← cZ,hke,ij,decide_eq_true wj];rfl
     clear cZ hke;have HW:Hid (Pl.cY st ws=0∧Pl.cn st ws=⟨Pl.eR st.acc st.cur,st.cur,false⟩):=Pl.Du iQ Pj.out;have gX:=uh HW.out.1;have l4:=uh HW.out.2;have xz:=HP.out.s.own.lt;have xa':=HP.out.s.at_;have yz2:=HP.out.b.own.lt;have ya':=HP.out.b.at_;have tw:=uh (vu (S:=fun _=>True) (B:=b0) (lo:=pb+1) st.acc st.cur (.slice xa st.acc.length xc) (.slice ca st.cur.lines.length cc) wy HP.out.sd HP.out.bd (by have:=jl.out.al;have:=HN.out;omega) yz2);go_wp2_with (first|(refine wpList_load_mid rfl 26 _ rfl (b0+2) 0 rfl [.slice xa st.acc.length xc] _ xa' Tryz.underlying26 rfl (by kernel_rfl) ?_)|(refine wpList_load_mid rfl 58 _ rfl pb 0 rfl [.string st.cur.kind,.string st.cur.name,.slice ca st.cur.lines.length cc] _ ya' Tryz.underlying58 rfl (by kernel_rfl) ?_))
     refine tw.out.mono ?_;rintro e w4 ⟨c4,rfl,hD,hb⟩;obtain⟨xa2,xc2,hc,Jz⟩:=tG hD;subst hc;have sn:=uh Jz;replace HP:=uh (HP.out.later hb)
     clear hb xz xa' yz2 ya' yz yw y2 yp tw hD Jz d1 dE d4 wj;have bJ:w4.there (b0+2) 0 (#[.slice xa2 (Pl.eR st.acc st.cur).length xc2]:Array Value).size:=aX HP.out.s.own _ _ (by simp);obtain⟨we,aZ⟩:∃ we,we=w4.setCells (b0+2) 0 [.slice xa2 (Pl.eR st.acc st.cur).length xc2]:=⟨_,rfl⟩
     have fS:Hid (Pz w b0 pb ls (.slice (some ⟨p,o,none⟩) ls.length lc) ⟨Pl.eR st.acc st.cur,st.cur,false⟩ (.slice xa2 (Pl.eR st.acc st.cur).length xc2) (.slice ca st.cur.lines.length cc) we):=by show Pz _ _ _ _ _ _ _ _ _;rw[aZ];exact HP.out.T8 fZ.out Es.out sn.out
     have kx:=uh aZ;clear aZ;go_upto_region 24 with(refine wpList_store_mid rfl 26 _ _ rfl (b0+2) 0 #[.slice xa2 (Pl.eR st.acc st.cur).length xc2] rfl rfl bJ (by kernel_rfl) (by simp[Value.oneCell']) ?_;first|rw[← kx.out]|(simp only[Xi];rw[← kx.out]))
     clear bJ HP kx sn;go_wp2;go_roundw
     case rel=>exact⟨k+1,⟨Pl.eR st.acc st.cur,st.cur,false⟩,_,_,by omega,rfl,by go_num,by have:=RS.out;rw[l4.out]at this;exact this,by rw[Mh.out,if_pos gX.out,l4.out],fS.out⟩
     case measure=>simp[intOf];omega
theorem xh (s:ByteArray):Lib.strCells s=Pl.byV s.data.toList:=rfl
theorem Fy {w:World} {ops:Array Oper} {rest:List Oper} {o:Oper} {a:Act} {Q:Exit→Act→World→Prop} (hgd:o.guard=none) (sl x:Operand)
  (ho:o.op=.call {callee:=.builtin .append,args:=#[sl,x],argTypes:=#[43,9]}) (lo:Nat) (v:Value) (l:List UInt8) (hs:a.eval sl=v) (dN:By w lo v l) (s:ByteArray) (hx:a.eval x=.string s)
  (DU:l.length+s.size≤1099511627776) (cX:lo≤w.heap.size)
  (h:∀ v' w',By w' lo v' (l++s.data.toList)→w.grownBy w' v.ownBlock→wpList Tryz.prog ops Q rest (a.put o.dst v') w'):wpList Tryz.prog ops Q (o::rest) a w:=by
 obtain⟨i0,hi,dp,eV,kD⟩:=i6 Tryz.nZ;refine Lib.wpList_append_own_string w hgd sl x 43 9 ho lo 5 i0 Tryz.fQ (by kernel_rfl) hi dp eV kD v l.length (Pl.byV l) hs dN s hx (by unfold maxLen;omega) (by omega) cX fun v' w' q1 q2 _=>h v' w' ?_ q2;unfold By;rw[Pl.vj,At,Pl.aD,← xh];exact q1
theorem By.ne {W:World} {lo p:Nat} {T:TypeId} {v:Value} {l:List UInt8} {cs:List Value} (h:By W lo v l) (hb:aA W p T cs) (hT:T≠5):v.ownBlock≠some p:=fun e=>by
 rcases h.2 with⟨q,_⟩|⟨g,cap,cur,q1,q2,q3,_⟩
 ·rw[q]at e;cases e
 ·rw[q1]at e;injection e with e
  have e':g=p:=e;subst e';obtain⟨MM,h1,_⟩:=hb.own;rw[q3]at h1;injection h1 with h1
  injection h1 with _ h2
  exact hT h2.symm
theorem xC (x:Pl.Ln) (a1:Option Addr) (c1:Nat) (w:World) (hA:Raw w bm [.row x.ws.length (txD x.ws)] [.slice a1 x.ws.length c1]) (hw:Pl.wln x≤1048576):
  Calls Tryz.prog 10 #[.agg #[.string x.key,.slice a1 x.ws.length c1]] w fun e w'=>e=.returned (.string ⟨(Pl.gp x).toArray⟩)∧Bel w w':=by
 have HA:=uh hA;have HWT:=uh hw;obtain⟨wa,aP⟩:∃ wa,wa=w.alloc (.cells #[.string x.key,.slice a1 x.ws.length c1] 41):=⟨_,rfl⟩
 have ti:Hid (Bel w wa):=by show Below _ _ _;rw[aP];exact af zR _
 have HX:Hid (au wa w.heap.size [.string x.key,.slice a1 x.ws.length c1]):=by show au _ _ _;rw[aP];exact au.new w #[.string x.key,.slice a1 x.ws.length c1] _ _ rfl
 clear hA hw;go_enter Tryz.func10,Tryz.ntmps10
 go_upto_region 1 with fail
 rw[← aP];clear aP;have x0:=HX.out.get 0 _ rfl;have xl:=HX.out.lt;go_wp2;go_loopw [3,4] (fun vo vi wr=>∃ (k:Nat) (T:ByteArray),k≤x.ws.length∧vi=.int .i64 k∧vo=.string T∧T.data.toList=x.key.data.toList++Pl.gn (x.ws.take k)∧Bel wa wr) (fun _ vi _=>x.ws.length - (intOf vi).toNat)
 case atStart=>exact⟨0,x.key,zN,rfl,rfl,by simp[Pl.gn],zR⟩
 case round=>
  obtain⟨k,T,hk,rfl,rfl,hT,hW⟩:=hrel;have HT:=uh hT;have HW:=uh hW;have x1:=(HX.out.later hW).get 1 _ rfl;have xl1:=(HX.out.later hW).lt;clear hT hW x0 xl;by_cases bq:k<x.ws.length
  rotate_left
  ·obtain rfl:k=x.ws.length:=by omega
   have HE:Hid (T=⟨(Pl.gp x).toArray⟩):=by
    show _=_;rw[Pl.gp,← YG (l:=x.ws),← HT.out,Pl.back]
   go_wp2;go_ret;exact⟨Pl.nH HE.out,ae ti.out HW.out⟩
  rcases dK (HA.out.later (ae ti.out HW.out)) with⟨e0,_⟩|⟨p,o,c,hv,hp,dR,hc⟩
  ·omega
  injection hv with g1 _ g3
  subst g1;subst g3;unfold maxLen at dR;have y1:=hc k bq;have RJ:(x.ws.getD k Pl.aJ).size≤1048576:=by
   have e:x.ws.getD k Pl.aJ=x.ws[k]:=by simp[bq]
   have:=Pl.mi (fun w:ByteArray=>w.size+1) x.ws _ (Xq bq);have:=HWT.out;unfold Pl.wln Pl.wtx at this;rw[e];omega
  have R2:Hid (T.size≤4194304):=by
   show _≤_;rw[← Pl.aD,HT.out,At,Pl.aD];have h1:=Pl.lg (x.ws.take k);have h2:=Pl.kI (fun w:ByteArray=>w.size+1) x.ws k;have h3:=HWT.out;unfold Pl.wtx at h1;unfold Pl.wln Pl.wtx at h3;omega
  have HN:Hid (Pl.gn (x.ws.take (k+1))=Pl.gn (x.ws.take k)++(32::Pl.jC (x.ws.getD k Pl.aJ).data.toList)):=by
   show _=_;rw[Pl.cp Pl.aJ x.ws k bq];simp[Pl.gn]
  obtain⟨y,hy⟩:∃ y,y=x.ws.getD k Pl.aJ:=⟨_,rfl⟩
  rw[← hy]at y1 RJ HN;have cZ:(0:Int)≤(k:Int):=by omega
  have dy:(k:Int)<(x.ws.length:Int):=by omega
  have HWL:=uh (Pl.oD y.data.toList);have pc:¬ (9223372036854775807<T.size+1):=by have:=R2.out;omega
  have uH:¬ (9223372036854775807<T.size+1+(Pl.cK y).size):=by
   have e:(Pl.cK y).size=(Pl.jC y.data.toList).length:=by simp[Pl.cK,ByteArray.size]
   have:=R2.out;have:=HWL.out;rw[Pl.aD]at this;omega
  clear hc hy;go_wp2_with (go_at_call 28;refine(zw _ _ RJ).mono ?_;rintro e w1 ⟨rfl,cr⟩)
  go_roundw
  case rel=>exact⟨k+1,_,by omega,by go_num,rfl,by rw[HN.out];simp[ByteArray.data_append,HT.out,Pl.cK],ae HW.out cr⟩
  case measure=>simp[intOf];omega
structure Xw (w:World) (b0 px p o n c lo:Nat) (sv:Value) (cur:List Pl.Bl) (W:World):Prop where
 bel:Bel w W
 arg:au W b0 [sv]
 res:aA W (b0+1) 26 [.slice none 0 0]
 x:au W px [.slice (some ⟨p,o,none⟩) n c]
 row:kq W p o lo cur
theorem Xw.later {w W W':World} {b0 px p o n c lo:Nat} {sv:Value} {cur:List Pl.Bl} (h:Xw w b0 px p o n c lo sv cur W) (hb:Bel W W'):Xw w b0 px p o n c lo sv cur W':=⟨ae h.bel hb,h.arg.later hb,h.res.later hb,h.x.later hb,h.row.later hb⟩
theorem Xw.put {w W:World} {b0 px p o n c lo N:Nat} {sv lv:Value} {cur:List Pl.Bl} (h:Xw w b0 px p o n c lo sv cur W) (hb:b0=w.heap.size) (hl:b0+2≤lo) (Qa:px≠p) {k:Nat} (hk:k<cur.length) (y:Pl.Bl) (hD:Dat (fun b=>lo≤b∧b≠p) N N W aV [bD y.lines] [lv]) (hN:p<N):Xw w b0 px p o n c lo sv (cur.set k y) (W.setCells p (o+k*3) [.string y.kind,.string y.name,lv]):=by
 have hm:Marks (fun b=>b=p) W (W.setCells p (o+k*3) [.string y.kind,.string y.name,lv]):=bf (S:=fun b=>b=p) rfl _ _ _;have hp:=h.row.lo;exact⟨hm.below (fun b e=>by omega) h.bel,h.arg.mks hm (by omega),h.res.mks hm (by omega),h.x.mks hm Qa,h.row.put hk y hD hN⟩
def VFa (rp:Nat) (ro:Nat) (nr:Nat) (rc:Nat) (k:Nat):Nat→Value→World→Prop
 |0,vv,_=>vv=.slice (some ⟨rp,ro,none⟩) nr rc
 |1,vv,_=>vv=.int .i64 (k:Int)
 |2,vv,_=>vv=.pointer (some ⟨rp,ro+k*4,none⟩)
 |3,vv,_=>vv=.pointer (some ⟨rp,ro+k*4+2,none⟩)
 |4,vv,_=>vv=.bool true
 |5,vv,_|6,vv,_|20,vv,_=>vv=.bool false
 |7,vv,_|8,vv,_|9,vv,_|10,vv,_|11,vv,_|12,vv,_|13,vv,_|14,vv,_|15,vv,_|16,vv,_|17,vv,_|18,vv,_|19,vv,_=>vv=undef
 |_,_,_=>True
theorem FQ (rp:Nat) (ro:Nat) (nr:Nat) (rc:Nat) (k:Nat):∀ jj vv W W',Bel W W'→VFa rp ro nr rc k jj vv W→VFa rp ro nr rc k jj vv W':=by
 intro jj vv W W' hb h;match jj with
 |0|1|2|3|4|5|6|7|8|9|10|11|12|13|14|15|16|17|18|19|20=>exact h
 |n+21=>exact trivial
def VFb (px:Nat) (p:Nat) (o:Nat) (n:Nat) (c:Nat) (i:Nat) (rp:Nat) (ro:Nat) (nr:Nat) (rc:Nat) (k:Nat) (y:Pl.Bl) (acc:List Pl.Ln) (r:Pl.Ru) (la:Option Addr) (lc:Nat):Nat→Value→World→Prop
 |0,vv,_|12,vv,_=>vv=.slice (some ⟨rp,ro,none⟩) nr rc
 |1,vv,_|13,vv,_=>vv=.int .i64 (k:Int)
 |2,vv,_|14,vv,_|15,vv,_=>vv=.pointer (some ⟨rp,ro+k*4,none⟩)
 |3,vv,_=>vv=.pointer (some ⟨rp,ro+k*4+2,none⟩)
 |4,vv,_=>vv=.bool false
 |5,vv,_|6,vv,_=>vv=.bool true
 |7,vv,_=>vv=.pointer (some ⟨px,0,none⟩)
 |8,vv,_=>vv=.slice (some ⟨p,o,none⟩) n c
 |9,vv,_=>vv=.int .i64 (i:Int)
 |10,vv,_=>vv=.pointer (some ⟨p,o+i*3,none⟩)
 |11,vv,_=>vv=.agg #[.string y.kind,.string y.name,.slice la acc.length lc]
 |16,vv,_=>vv=.string r.key
 |17,vv,_=>∃ a m,vv=.slice a (Pl.aO acc r.key).length m
 |18,vv,_=>vv=.int .i64 ((Pl.aO acc r.key).length:Int)
 |19,vv,_|20,vv,_=>vv=.bool (decide ((Pl.aO acc r.key).length=0))
 |_,_,_=>True
theorem GJ (px:Nat) (p:Nat) (o:Nat) (n:Nat) (c:Nat) (i:Nat) (rp:Nat) (ro:Nat) (nr:Nat) (rc:Nat) (k:Nat) (y:Pl.Bl) (acc:List Pl.Ln) (r:Pl.Ru) (la:Option Addr) (lc:Nat):∀ jj vv W W',Bel W W'→VFb px p o n c i rp ro nr rc k y acc r la lc jj vv W→VFb px p o n c i rp ro nr rc k y acc r la lc jj vv W':=by
 intro jj vv W W' hb h;match jj with
 |0|1|2|3|4|5|6|7|8|9|10|11|12|13|14|15|16|18|19|20=>exact h
 |17=>
  exact h
 |n+21=>exact trivial
def VFc (lo:Nat) (N:Nat) (px:Nat) (p:Nat) (o:Nat) (n:Nat) (c:Nat) (i:Nat) (rp:Nat) (ro:Nat) (nr:Nat) (rc:Nat) (k:Nat) (y:Pl.Bl) (acc:List Pl.Ln) (r:Pl.Ru) (la:Option Addr) (a3:Option Addr) (lc:Nat) (c3:Nat):Nat→Value→World→Prop
 |0,vv,_|3,vv,_=>vv=.pointer (some ⟨px,0,none⟩)
 |1,vv,_|4,vv,_=>vv=.slice (some ⟨p,o,none⟩) n c
 |2,vv,_|5,vv,_=>vv=.int .i64 (i:Int)
 |6,vv,_|20,vv,_=>vv=.pointer (some ⟨p,o+i*3,none⟩)
 |7,vv,_=>vv=.agg #[.string y.kind,.string y.name,.slice la acc.length lc]
 |8,vv,_|13,vv,_=>vv=.slice (some ⟨rp,ro,none⟩) nr rc
 |9,vv,_|14,vv,_=>vv=.int .i64 (k:Int)
 |10,vv,_|11,vv,_|15,vv,_=>vv=.pointer (some ⟨rp,ro+k*4,none⟩)
 |12,vv,_=>vv=.string r.key
 |16,vv,_=>vv=.pointer (some ⟨rp,ro+k*4+3,none⟩)
 |17,vv,_=>vv=.slice a3 r.dflt.length c3
 |18,vv,_=>vv=.agg #[.string r.key,.slice a3 r.dflt.length c3]
 |19,vv,W=>∃ cc,vv=.agg cc.toArray∧Dat (fun b=>lo≤b∧b≠p) N N W aq (blD ⟨y.kind,y.name,Pl.bS y.kind acc ⟨r.key,r.dflt⟩⟩) cc
 |_,_,_=>True
theorem E6 (lo:Nat) (N:Nat) (px:Nat) (p:Nat) (o:Nat) (n:Nat) (c:Nat) (i:Nat) (rp:Nat) (ro:Nat) (nr:Nat) (rc:Nat) (k:Nat) (y:Pl.Bl) (acc:List Pl.Ln) (r:Pl.Ru) (la:Option Addr) (a3:Option Addr) (lc:Nat) (c3:Nat):∀ jj vv W W',Bel W W'→VFc lo N px p o n c i rp ro nr rc k y acc r la a3 lc c3 jj vv W→VFc lo N px p o n c i rp ro nr rc k y acc r la a3 lc c3 jj vv W':=by
 intro jj vv W W' hb h;match jj with
 |0|1|2|3|4|5|6|7|8|9|10|11|12|13|14|15|16|17|18|20=>exact h
 |19=>
  obtain⟨cc,h1,h2⟩:=h;exact⟨cc,h1,h2.later hb⟩
 |n+21=>exact trivial
theorem qy (s:List Pl.Bl) (v:Value) (w:World) (h:Raw w bL [cq s] [v]) (hs:∀ b∈s,Sm 1048576 b):
  Calls Tryz.prog 9 #[.agg #[v]] w (Ans ee [cq (Pl.bN s)] w):=by
 have HL:=uh h;have wA:=uh hs;obtain⟨va,vc,ev⟩:=h.aT;subst ev;clear h hs;obtain⟨wa,aP⟩:∃ wa,wa=(w.alloc (.cells #[.slice va s.length vc] 26)).alloc (.cells #[.slice none 0 0] 26):=⟨_,rfl⟩
 obtain⟨b0,aU⟩:∃ b0,b0=w.heap.size:=⟨_,rfl⟩
 have fZ:=uh aU;have HB:Hid (Bel w wa):=by show Below _ _ _;rw[aP];exact af (af zR _) _
 have eD:Hid (au wa b0 [.slice va s.length vc]):=by show au _ _ _;rw[aP,aU];exact(au.new w #[.slice va s.length vc] _ _ rfl).eO _
 have fG:Hid (aA wa (b0+1) 26 [.slice none 0 0]):=by show aA _ _ _ _;rw[aP,aU];exact aA.new (w.alloc (.cells #[.slice va s.length vc] 26)) [.slice none 0 0] 26 _ (by simp)
 go_enter Tryz.func9,Tryz.ntmps9
 go_upto_region 1 with fail
 rw[← aP,← aU];clear aP aU;have ld:=uh (fun (X:World) (hX:Bel w X)=>kR s (.slice va s.length vc) X (HL.out.later hX) (QO wA.out));have xz:=eD.out.lt;have xa:=eD.out.at_;go_wp2_with (refine wpList_load_mid rfl 26 _ rfl b0 0 rfl [.slice va s.length vc] _ xa Tryz.underlying26 rfl (by kernel_rfl) ?_)
 refine(ld.out wa HB.out).mono ?_;rintro e w1 ⟨rfl,hb⟩;replace HB:=uh (ae HB.out hb)
 replace eD:=uh (eD.out.later hb)
 replace fG:=uh (fG.out.later hb)
 clear hb xz xa ld;cases bn:Pl.bw s
 ·have HE:Hid (Pl.bN s=[]):=by show _=_;unfold Pl.bN;rw[bn];rfl
  have oU:=fG;have kv:=HB;have bJ:w1.there (b0+1) 0 (#[.slice none 0 0]:Array Value).size:=aX oU.out.own _ _ (by simp);obtain⟨we,aZ⟩:∃ we,we=w1.setCells (b0+1) 0 [.slice none 0 0]:=⟨_,rfl⟩
  have dP:we.rangeAt (b0+1) 0 [.slice none 0 0]:=by rw[aZ];exact World.rangeAt_setCells_same _ _ _ _ bJ
  have gT:Hid (Marks (fun b=>b=b0+1) w1 we):=by show Marks _ _ _;rw[aZ];exact bf (S:=fun b=>b=b0+1) rfl _ _ _
  go_wp2_with (refine wpList_store_mid rfl 26 _ _ rfl (b0+1) 0 #[.slice none 0 0] rfl rfl bJ (by kernel_rfl) (by simp[Value.oneCell']) ?_)
  first|rw[← aZ]|(simp only[Xi];rw[← aZ])
  try simp only[Act.put]
  refine bodyPost_ret (v:=.agg #[.slice none 0 0]) (by simp[results,Tryz.results9,asAddr,run_loadVar_mid (P:=Tryz.prog) _ _ _ 26 [.slice none 0 0] _ dP Tryz.underlying26 rfl (by kernel_rfl)]) rfl ?_;have hz:=fZ.out;rw[HE.out];exact⟨[.slice none 0 0],[],rfl,.emp _ _ _ rfl .nil,XL,by simp,gT.out.below (fun b e=>by omega) kv.out⟩
 have Ay:Hid (Pl.bN s=s.map Pl.fs):=by show _=_;unfold Pl.bN;rw[bn];rfl
 have nK:=Pl.fh bn;clear bn;have xz:=eD.out.lt;have xa:=eD.out.at_;have ld:=uh (nC s (.slice va s.length vc) w1 (HL.out.later HB.out) (by omega) (fun b hb=>⟨Xg (wA.out b hb).ln (by omega),fun x hx=>((wA.out b hb).ws x hx).1⟩));go_wp2_with (refine wpList_load_mid rfl 26 _ rfl b0 0 rfl [.slice va s.length vc] _ xa Tryz.underlying26 rfl (by kernel_rfl) ?_)
 refine ld.out.mono ?_;rintro e w2 ⟨cc,FF,rfl,rep,nd,fr,hb⟩;obtain⟨F2,v2,PX,lN,r2⟩:=ix rep;subst lN;obtain⟨a2,m2,iH⟩:=r2.raw.aT;subst iH;rw[PX,Xl]at nd fr;have mP:Hid (b0+2≤w1.heap.size):=fG.out.own.lt;have JD:Hid (∀ b∈F2,b<w2.heap.size):=r2.lt;replace HB:=uh (ae HB.out hb)
 replace eD:=uh (eD.out.later hb)
 replace fG:=uh (fG.out.later hb)
 have Au:=uh (Xt r2 (Xt nd fr));clear rep nd fr r2 hb xz xa ld PX;obtain⟨lo,cX⟩:∃ lo,lo=w1.heap.size:=⟨_,rfl⟩
 rw[← cX]at mP Au;clear cX;obtain⟨px,Qa⟩:∃ px,px=w2.heap.size:=⟨_,rfl⟩
 obtain⟨wx,Lt⟩:∃ wx,wx=w2.alloc (.cells #[.slice a2 s.length m2] 26):=⟨_,rfl⟩
 have fL:Bel w2 wx:=by rw[Lt];exact af zR _
 have qs:Hid (au wx px [.slice a2 s.length m2]):=by show au _ _ _;rw[Lt,Qa];exact au.new w2 #[.slice a2 s.length m2] _ _ rfl
 replace HB:=uh (ae HB.out fL)
 replace eD:=uh (eD.out.later fL)
 replace fG:=uh (fG.out.later fL)
 replace Au:=uh (Xt (Au.out.1.later fL) Au.out.2)
 rw[← Qa]at JD;clear fL;go_upto_region 4 with fail
 rw[← Lt,← Qa];clear Lt Qa;by_cases hz:s.length=0
 ·have hse:s=[]:=Xs hz;subst hse;have HE:Hid (Pl.bN []=[]):=by show _=_;rw[Ay.out];rfl
  have x0:=qs.out.get 0 _ rfl;have xl:=qs.out.lt;have xa:=qs.out.at_;have kY:=uh (nC [] (.slice a2 0 m2) wx (Au.out.1.raw) (by simp) (by simp));have hHLE:¬ ((0:Int)<0):=by omega
  go_wp2;refine wp_loop_rounds 1 ?_;rw[rounds_succ];go_wp2_with (refine wpList_load_mid rfl 26 _ rfl px 0 rfl [.slice a2 0 m2] _ xa Tryz.underlying26 rfl (by kernel_rfl) ?_)
  refine kY.out.mono ?_;rintro e w3 ⟨cc,FF,rfl,rep,nd,fr,hb⟩;obtain⟨F3,v3,PX,lN,r3⟩:=ix rep;subst lN;obtain⟨a3,m3,wC⟩:=r3.raw.aT;subst wC;have oU:=uh (fG.out.later hb);have kv:=uh (ae HB.out hb);have vW:=uh (Xt rep (Xt nd fr));have Sa:Hid (b0+1<wx.heap.size):=fG.out.own.lt;clear rep nd fr r3 hb PX xl x0 xa kY;have bJ:w3.there (b0+1) 0 (#[.slice a3 0 m3]:Array Value).size:=aX oU.out.own _ _ (by simp);obtain⟨we,aZ⟩:∃ we,we=w3.setCells (b0+1) 0 [.slice a3 0 m3]:=⟨_,rfl⟩
  have dP:we.rangeAt (b0+1) 0 [.slice a3 0 m3]:=by rw[aZ];exact World.rangeAt_setCells_same _ _ _ _ bJ
  have gT:Hid (Marks (fun b=>b=b0+1) w3 we):=by show Marks _ _ _;rw[aZ];exact bf (S:=fun b=>b=b0+1) rfl _ _ _
  go_wp2_with (refine wpList_store_mid rfl 26 _ _ rfl (b0+1) 0 #[.slice a3 0 m3] rfl rfl bJ (by kernel_rfl) (by simp[Value.oneCell']) ?_)
  first|rw[← aZ]|(simp only[Xi];rw[← aZ])
  try simp only[Act.put]
  refine bodyPost_ret (v:=.agg #[.slice a3 0 m3]) (by simp[results,Tryz.results9,asAddr,run_loadVar_mid (P:=Tryz.prog) _ _ _ 26 [.slice a3 0 m3] _ dP Tryz.underlying26 rfl (by kernel_rfl)]) rfl ?_;have hz:=fZ.out;rw[HE.out];exact⟨_,FF,rfl,vW.out.1.cO gT.out (fun b hb e=>by have:=vW.out.2.2 b hb;have:=Sa.out;omega),vW.out.2.1,fun b hb=>by have:=vW.out.2.2 b hb;have:=Sa.out;omega,gT.out.below (fun b e=>by omega) kv.out⟩
 obtain⟨p,o,c,hv,Sj,ke⟩:=Ku Au.out.1 Au.out.2.1 Au.out.2.2 (by omega);injection hv with g1 g2 g3
 subst g1;subst g3;obtain⟨n,hn⟩:∃ n,n=s.length:=⟨_,rfl⟩
 have HN:=uh hn;have HPP:Hid (px≠p):=by
  intro e;rcases Au.out.1.slice with⟨_,h0,_⟩|⟨p',o',c',u',m',G',PQ,Tv,_⟩
  ·omega
  ·injection PQ with q1
   injection q1 with q1
   injection q1 with q1
   have:=JD.out p' (by rw[Tv];simp);omega
 have H0:Hid (Xw w b0 px p o n m2 lo (.slice va s.length vc) s wx):=⟨HB.out,eD.out,fG.out,by rw[hn];exact qs.out,ke⟩
 have hnl:n≤60:=by omega
 have nO:Hid (n≤m2):=by show _≤_;rw[hn];exact Sj
 clear HB eD fG qs Au JD ke Sj hz nK;rw[← hn];rw[← hn]at H0;clear hn;go_wp2;go_loopw [4] (fun vi wr=>∃ (i:Nat),i≤n∧vi=.int .i64 i∧Xw w b0 px p o n m2 lo (.slice va n vc) (Pl.jJ Pl.fs s i) wr) (fun vi _=>n - (intOf vi).toNat)
 case atStart=>exact⟨0,zN,rfl,by rw[Pl.Dx];exact H0.out⟩
 case round=>
  obtain⟨i,hi,rfl,hO⟩:=hrel;have HO:=uh hO;clear hO H0;have x0:=HO.out.x.get 0 _ rfl;have xl:=HO.out.x.lt;by_cases bq:i<n
  rotate_left
  ·obtain rfl:i=n:=by omega
   have tB:¬ ((i:Int)<(i:Int)):=by omega
   have uP:Hid (Pl.jJ Pl.fs s i=s.map Pl.fs):=by show _=_;rw[HN.out,Pl.Gh]
   rw[uP.out]at HO;have qt:Hid ((s.map Pl.fs).length=i):=by show _=_;rw[XT];exact HN.out.symm
   have HE:Hid (Pl.bN s=s.map Pl.fs):=Ay;have Rm:Hid (∀ b∈s.map Pl.fs,b.lines.length≤4194304∧∀ x∈b.lines,x.ws.length≤4194304):=fun b hb=>by
    obtain⟨y,hy,rfl⟩:=YA.1 hb;have h1:=Be (wA.out y hy) (Pl.ah y.kind).length;rw[YG]at h1;exact⟨Xg h1.1 (by omega),h1.2⟩
   obtain⟨z,hz⟩:∃ z,z=s.map Pl.fs:=⟨_,rfl⟩
   rw[← hz]at HO qt HE Rm;clear hz;go_upto_region 13 with fail
   clear x0 xl tB;have xa:=HO.out.x.at_;have xl:=HO.out.x.lt;have kY:=uh (nC z (.slice (some ⟨p,o,none⟩) z.length m2) wr (HO.out.row.raw ⟨by rw[qt.out];unfold maxLen;omega,by rw[qt.out];exact nO.out⟩) (by rw[qt.out];omega) Rm.out);rw[qt.out]at kY;go_wp2_with (refine wpList_load_mid rfl 26 _ rfl px 0 rfl [.slice (some ⟨p,o,none⟩) i m2] _ xa Tryz.underlying26 rfl (by kernel_rfl) ?_)
   refine kY.out.mono ?_;rintro e w3 ⟨cc,FF,rfl,rep,nd,fr,hb⟩;obtain⟨F3,v3,PX,lN,r3⟩:=ix rep;subst lN;obtain⟨a3,m3,wC⟩:=r3.raw.aT;subst wC;have oU:=uh (HO.out.res.later hb);have kv:=uh (ae HO.out.bel hb);have vW:=uh (Xt rep (Xt nd fr));have Sa:Hid (b0+1<wr.heap.size):=HO.out.res.own.lt;clear rep nd fr r3 hb PX xl xa kY;have bJ:w3.there (b0+1) 0 (#[.slice a3 z.length m3]:Array Value).size:=aX oU.out.own _ _ (by simp);obtain⟨we,aZ⟩:∃ we,we=w3.setCells (b0+1) 0 [.slice a3 z.length m3]:=⟨_,rfl⟩
   have dP:we.rangeAt (b0+1) 0 [.slice a3 z.length m3]:=by rw[aZ];exact World.rangeAt_setCells_same _ _ _ _ bJ
   have gT:Hid (Marks (fun b=>b=b0+1) w3 we):=by show Marks _ _ _;rw[aZ];exact bf (S:=fun b=>b=b0+1) rfl _ _ _
   go_wp2_with (refine wpList_store_mid rfl 26 _ _ rfl (b0+1) 0 #[.slice a3 z.length m3] rfl rfl bJ (by kernel_rfl) (by simp[Value.oneCell']) ?_)
   first|rw[← aZ]|(simp only[Xi];rw[← aZ])
   try simp only[Act.put]
   refine bodyPost_ret (v:=.agg #[.slice a3 z.length m3]) (by simp[results,Tryz.results9,asAddr,run_loadVar_mid (P:=Tryz.prog) _ _ _ 26 [.slice a3 z.length m3] _ dP Tryz.underlying26 rfl (by kernel_rfl)]) rfl ?_;have hz:=fZ.out;rw[HE.out];exact⟨_,FF,rfl,vW.out.1.cO gT.out (fun b hb e=>by have:=vW.out.2.2 b hb;have:=Sa.out;omega),vW.out.2.1,fun b hb=>by have:=vW.out.2.2 b hb;have:=Sa.out;omega,gT.out.below (fun b e=>by omega) kv.out⟩
  have Td:i<s.length:=by have:=HN.out;omega
  have jN:Hid ((Pl.jJ Pl.fs s i).length=n):=by show _=_;rw[HN.out];exact Pl.E0 Pl.fs s i (by omega)
  obtain⟨y,hy⟩:∃ y,y=s.getD i Pl.aG:=⟨_,rfl⟩
  have HSY:Hid (Sm 1048576 y):=by show Sm _ _;rw[hy];exact sm_at wA.out Td
  have Q3:=uh (Pl.DF Pl.fs s i Td);have JP:=uh (Pl.CQ Pl.fs s i Td);rw[← hy]at Q3 JP;obtain⟨ga,gm,dm,_⟩:=HO.out.row.at_ (k:=i) (by rw[jN.out];exact bq) zE;rw[Pl.Gw Pl.fs s i Td,← hy]at dm;have hgk:=dm 0 _ rfl;rw[Nat.add_zero]at hgk;have eH:=HO.out.row.lt;obtain⟨cur,ks⟩:∃ cur,cur=Pl.jJ Pl.fs s i:=⟨_,rfl⟩
  rw[← ks]at HO jN Q3 JP;clear ks hy dm;have iK:(0:Int)≤(i:Int):=by omega
  have iN:(i:Int)<(n:Int):=by omega
  have lH:=uh (dW y.kind wr);go_wp2_with fail
  refine lH.out.mono ?_;rintro e w4 ⟨rv,RF,rfl,rep,nd,fr,hb⟩;obtain⟨ra,rc,SW⟩:=rep.raw.aT;subst SW;have Te:Hid (pN lo p w4 [.row 75 aB] [bV (Pl.ah y.kind)] [.slice ra (Pl.ah y.kind).length rc]):=⟨RF,rep,fun b hb=>⟨by have:=fr b hb;have:=HO.out.row.lo;have:=HO.out.row.lt;omega,by have:=fr b hb;have:=HO.out.row.lt;omega⟩⟩
  replace HO:=uh (HO.out.later hb)
  clear rep nd fr hb hgk eH x0 xl lH;obtain⟨rs,y4⟩:∃ rs,rs=Pl.ah y.kind:=⟨_,rfl⟩
  have fG:=uh y4;rw[← y4]at Te ⊢;obtain⟨nr,TV⟩:∃ nr,nr=rs.length:=⟨_,rfl⟩
  have Wp:=uh TV;have hnr12:nr≤12:=by rw[TV,y4];exact ey _
  rw[← TV]at Te ⊢;clear y4 TV;have qq:Hid (pN lo p w4 [.row 75 aB] [bV rs] [.slice ra nr rc]):=Te.out;clear Te;go_wp2;go_loopw [6] (fun vi wr=>∃ (k:Nat),k≤nr∧vi=.int .i64 k∧pN lo p wr [.row 75 aB] [bV rs] [.slice ra nr rc]∧Xw w b0 px p o n m2 lo (.slice va n vc) (cur.set i ⟨y.kind,y.name,Pl.dq y.kind y.lines (rs.take k)⟩) wr) (fun vi _=>nr - (intOf vi).toNat)
  case atStart=>exact⟨0,zN,rfl,qq.out,by show Xw _ _ _ _ _ _ _ _ _ (cur.set i ⟨y.kind,y.name,y.lines⟩) _;rw[JP.out];exact HO.out⟩
  case round=>
   clear HO qq;obtain⟨k,hk,rfl,hR,hO⟩:=hrel;have HO:=uh hO;have qq:=uh hR;clear hO hR;by_cases hkt:k<nr
   rotate_left
   ·obtain rfl:k=nr:=by omega
    have tB:¬ ((k:Int)<(k:Int)):=by omega
    have Lr:Hid (cur.set i ⟨y.kind,y.name,Pl.dq y.kind y.lines (rs.take k)⟩=Pl.jJ Pl.fs s (i+1)):=by
     show _=_;rw[← Q3.out,Wp.out,YG,fG.out];rfl
    rw[Lr.out]at HO;go_wp2;go_roundw
    case rel=>exact⟨i+1,by omega,by go_num,HO.out⟩
    case measure=>simp[intOf];omega
   have hkr:k<rs.length:=by have:=Wp.out;omega
   obtain⟨acc,KU⟩:∃ acc,acc=Pl.dq y.kind y.lines (rs.take k):=⟨_,rfl⟩
   obtain⟨r,hr⟩:∃ r,r=rs.getD k Pl.bu:=⟨_,rfl⟩
   have eU:Hid (Pl.dq y.kind y.lines (rs.take (k+1))=Pl.dJ y.kind acc r):=by show _=_;rw[Pl.xx _ _ _ _ hkr,KU,hr]
   have Ey:Hid (acc.length≤1048588∧∀ x∈acc,x.ws.length≤4194304):=by
    show _∧_;rw[KU,fG.out];exact Be HSY.out k
   rw[← KU]at HO;obtain⟨N,hN⟩:∃ N,N=wr.heap.size:=⟨_,rfl⟩
   obtain⟨la,lc,dm,SG⟩:=HO.out.row.at_ (k:=i) (by rw[YE,jN.out];exact bq) (N:=N) (by omega);rw[Pl.Kw _ _ _ _ (by rw[jN.out];exact bq)]at dm SG;obtain⟨rp,ro,c',a1,c1,a3,c3,hv,LW,eC,lY⟩:=GL (qq.out.dat (N:=N) (by omega)) hkr;rw[← Wp.out]at hv;injection hv with g1 g2 g3
   subst g1;subst g3;rw[← hr]at eC lY;have cU:=uh dm;have wQ:=uh SG;have Jy:=uh eC;have Lo:=uh lY;have de:Hid (p<wr.heap.size):=HO.out.row.lt;have Cb:=uh LW;have Qj:Hid (p<N∧N≤wr.heap.size):=by rw[hN];exact⟨HO.out.row.lt,zE⟩
   clear KU hr hN dm SG eC lY LW;have cZ:(0:Int)≤(k:Int):=by omega
   have dy:(k:Int)<(nr:Int):=by omega
   cases mL:r.many
   rotate_left
   ·have SF:Hid (Pl.dq y.kind y.lines (rs.take (k+1))=acc):=by show _=_;rw[eU.out];unfold Pl.dJ;rw[mL];rfl
    rw[mL]at Jy;go_upto_region 11 with fail
    refine RY.aM wr zR (VFa rp ro nr rc k) (FQ _ _ _ _ _) (by kernel_rfl) (by kernel_rfl) (by kernel_rfl) (by kernel_rfl) ?_ ?_
    ·intro ii o' ho a X hX hk hd;have zpx:=HO.out.x.later hX;have zpxl:=zpx.lt;match ii,ho with
     |0,rfl=>
      exact RY.n (RY.p (.slice (some ⟨rp,ro,none⟩) nr rc) (by simp[execOp,go_sem,RY.K hk 5 (.slice (some ⟨rp,ro,none⟩) nr rc)]))
     |1,rfl=>
      exact RY.n (RY.p (.int .i64 (k:Int)) (by simp[execOp,go_sem,RY.K hk 6 (.int .i64 (k:Int))]))
     |2,rfl=>
      exact RY.n (RY.p (.pointer (some ⟨rp,ro+k*4,none⟩)) (by simp[execOp,go_sem,RY.E hd 0 33,RY.E hd 1 34,cZ,dy]))
     |3,rfl=>
      exact RY.n (RY.p (.pointer (some ⟨rp,ro+k*4+2,none⟩)) (by simp[execOp,go_sem,RY.E hd 2 35]))
     |4,rfl=>
      have e36:=RY.E hd 3 36;have yp:=zL Cb.out hX.size;have yc:X.cell? ⟨rp,ro+k*4+2,none⟩=some (.bool true):=by have q:=aF (aj Jy.out Cb.out hX) 2 _ rfl;simpa using q
      exact RY.n (RY.p (.bool true) (by simp[execOp,go_sem,e36,yc]))
     |5,rfl=>
      exact RY.n (RY.p (.bool false) (by simp[execOp,go_sem,RY.E hd 4 37]))
     |6,rfl=>
      exact RY.n (RY.p (.bool false) (by simp[execOp,go_sem,RY.E hd 5 38]))
     |7,rfl|8,rfl|9,rfl|10,rfl|11,rfl|12,rfl|13,rfl|14,rfl|15,rfl|16,rfl|17,rfl|18,rfl|19,rfl=>
      exact RY.off hd 6 39
     |20,rfl=>
      exact RY.n (RY.p (.bool false) (by simp[execOp,go_sem,RY.E hd 6 39,RY.E hd 19 52]))
     |n+21,ho=>simp at ho
    intro X vs hX bn;have q53:vs 53=_:=bn 20 _ 53 rfl rfl;simp only[RY.aC,Act.put,so,As,An];rw[q53];generalize vs 33=pY,vs 34=qo,vs 35=nP,vs 36=mU,vs 37=nS,vs 38=mT,vs 39=nW,vs 40=s40,vs 41=s41,vs 42=s42,vs 43=s43,vs 44=s44,vs 45=s45,vs 46=s46,vs 47=s47,vs 48=s48,vs 49=s49,vs 50=Cn,vs 51=s51,vs 52=s52;clear bn q53;replace HO:=uh (HO.out.later hX)
    replace qq:=uh (qq.out.later hX)
    clear hX;rw[← SF.out]at HO;go_wp2;go_roundw
    case rel=>exact⟨k+1,by omega,by go_num,qq.out,HO.out⟩
    case measure=>simp[intOf];omega
   rw[mL]at Jy;have hfe:((((Pl.aO acc r.key).length:Nat):Int)==0)=decide ((Pl.aO acc r.key).length=0):=by rw[XB];simp
   have HCO:=uh (fun (X:World) (hX:Bel wr X)=>Ar ⟨y.kind,y.name,acc⟩ (.slice la acc.length lc) r.key X (wQ.out.raw.later hX) (by have:=Ey.out.1;show acc.length≤_;omega) Ey.out.2);go_upto_region 11 with fail
   refine RY.aM wr zR (VFb px p o n m2 i rp ro nr rc k y acc r la lc) (GJ _ _ _ _ _ _ _ _ _ _ _ _ _ _ _ _) (by kernel_rfl) (by kernel_rfl) (by kernel_rfl) (by kernel_rfl) ?_ ?_
   ·intro ii o' ho a X hX hk hd;have zpx:=HO.out.x.later hX;have zpxl:=zpx.lt;match ii,ho with
    |0,rfl=>
     exact RY.n (RY.p (.slice (some ⟨rp,ro,none⟩) nr rc) (by simp[execOp,go_sem,RY.K hk 5 (.slice (some ⟨rp,ro,none⟩) nr rc)]))
    |1,rfl=>
     exact RY.n (RY.p (.int .i64 (k:Int)) (by simp[execOp,go_sem,RY.K hk 6 (.int .i64 (k:Int))]))
    |2,rfl=>
     exact RY.n (RY.p (.pointer (some ⟨rp,ro+k*4,none⟩)) (by simp[execOp,go_sem,RY.E hd 0 33,RY.E hd 1 34,cZ,dy]))
    |3,rfl=>
     exact RY.n (RY.p (.pointer (some ⟨rp,ro+k*4+2,none⟩)) (by simp[execOp,go_sem,RY.E hd 2 35]))
    |4,rfl=>
     have e36:=RY.E hd 3 36;have yp:=zL Cb.out hX.size;have yc:X.cell? ⟨rp,ro+k*4+2,none⟩=some (.bool false):=by have q:=aF (aj Jy.out Cb.out hX) 2 _ rfl;simpa using q
     exact RY.n (RY.p (.bool false) (by simp[execOp,go_sem,e36,yc]))
    |5,rfl=>
     exact RY.n (RY.p (.bool true) (by simp[execOp,go_sem,RY.E hd 4 37]))
    |6,rfl=>
     exact RY.n (RY.p (.bool true) (by simp[execOp,go_sem,RY.E hd 5 38]))
    |7,rfl=>
     exact RY.on hd 6 39 (RY.p (.pointer (some ⟨px,0,none⟩)) (by simp[execOp,go_sem,RY.K hk 3 (.pointer (some ⟨px,0,none⟩))]))
    |8,rfl=>
     have e40:=RY.E hd 7 40;have yc:=zpx.get 0 _ rfl;exact RY.on hd 6 39 (RY.p (.slice (some ⟨p,o,none⟩) n m2) (by simp[execOp,go_sem,e40,yc]))
    |9,rfl=>
     exact RY.on hd 6 39 (RY.p (.int .i64 (i:Int)) (by simp[execOp,go_sem,RY.K hk 4 (.int .i64 (i:Int))]))
    |10,rfl=>
     exact RY.on hd 6 39 (RY.p (.pointer (some ⟨p,o+i*3,none⟩)) (by simp[execOp,go_sem,RY.E hd 8 41,RY.E hd 9 42,iK,iN]))
    |11,rfl=>
     have gd:=hd 6 _ 39 rfl rfl ⟨⟨6,.guard⟩,by simp,rfl,rfl⟩;have v43:a.eval (.tmp 43)=.pointer (some ⟨p,o+i*3,none⟩):=hd 10 _ 43 rfl rfl ⟨⟨10,.data⟩,by simp,rfl,rfl⟩;exact No ⟨(RY.bg rfl rfl rfl gd).trans rfl,No ⟨_,X,ak 58 _ rfl p (o+i*3) v43 [.string y.kind,.string y.name,.slice la acc.length lc] _ (aj cU.out de.out hX) Tryz.underlying58 rfl (by kernel_rfl),zR,rfl⟩⟩
    |12,rfl=>
     exact RY.on hd 6 39 (RY.p (.slice (some ⟨rp,ro,none⟩) nr rc) (by simp[execOp,go_sem,RY.K hk 5 (.slice (some ⟨rp,ro,none⟩) nr rc)]))
    |13,rfl=>
     exact RY.on hd 6 39 (RY.p (.int .i64 (k:Int)) (by simp[execOp,go_sem,RY.K hk 6 (.int .i64 (k:Int))]))
    |14,rfl=>
     exact RY.on hd 6 39 (RY.p (.pointer (some ⟨rp,ro+k*4,none⟩)) (by simp[execOp,go_sem,RY.E hd 12 45,RY.E hd 13 46,cZ,dy]))
    |15,rfl=>
     exact RY.on hd 6 39 (RY.p (.pointer (some ⟨rp,ro+k*4,none⟩)) (by simp[execOp,go_sem,RY.E hd 14 47]))
    |16,rfl=>
     have e48:=RY.E hd 15 48;have yp:=zL Cb.out hX.size;have yc:X.cell? ⟨rp,ro+k*4,none⟩=some (.string r.key):=by have q:=aF (aj Jy.out Cb.out hX) 0 _ rfl;simpa using q
     exact RY.on hd 6 39 (RY.p (.string r.key) (by simp[execOp,go_sem,e48,yc]))
    |17,rfl=>
     have e44:=RY.E hd 11 44;have e49:=RY.E hd 16 49;refine RY.on hd 6 39 (.inr ⟨26,#[.agg #[.string y.kind,.string y.name,.slice la acc.length lc],.string r.key],by simp[go_sem,e44,e49],(HCO.out X hX).mono ?_⟩);rintro e W' ⟨v,F,rfl,hr,nd,fr,hb⟩;obtain⟨a1,m1,rfl⟩:=hr.raw.aT;exact⟨_,rfl,hb,a1,m1,rfl⟩
    |18,rfl=>
     have gd:=hd 6 _ 39 rfl rfl ⟨⟨6,.guard⟩,by simp,rfl,rfl⟩;obtain⟨a50,m50,q50⟩:=hd 17 _ 50 rfl rfl ⟨⟨17,.data⟩,by simp,rfl,rfl⟩;have e50:a.tmps[50]?.getD undef=.slice a50 (Pl.aO acc r.key).length m50:=(RY.ai a 50).trans q50;exact No ⟨(RY.bg rfl rfl rfl gd).trans rfl,No ⟨.int .i64 ((Pl.aO acc r.key).length:Int),X,by simp[go_sem,e50],zR,rfl⟩⟩
    |19,rfl=>
     exact RY.on hd 6 39 (RY.p (.bool (decide ((Pl.aO acc r.key).length=0))) (by simp[execOp,go_sem,RY.E hd 18 51,hfe]))
    |20,rfl=>
     exact RY.n (RY.p (.bool (decide ((Pl.aO acc r.key).length=0))) (by simp[execOp,go_sem,RY.E hd 6 39,RY.E hd 19 52]))
    |n+21,ho=>simp at ho
   intro X vs hX bn;have q53:vs 53=_:=bn 20 _ 53 rfl rfl;simp only[RY.aC,Act.put,so,As,An];rw[q53];generalize vs 33=pY,vs 34=qo,vs 35=nP,vs 36=mU,vs 37=nS,vs 38=mT,vs 39=nW,vs 40=s40,vs 41=s41,vs 42=s42,vs 43=s43,vs 44=s44,vs 45=s45,vs 46=s46,vs 47=s47,vs 48=s48,vs 49=s49,vs 50=Cn,vs 51=s51,vs 52=s52;clear bn q53;replace HO:=uh (HO.out.later hX)
   replace qq:=uh (qq.out.later hX)
   replace wQ:=uh (wQ.out.later hX)
   replace Lo:=uh (Lo.out.later hX)
   replace cU:=uh (aj cU.out de.out hX)
   replace de:=uh (zL de.out hX.size)
   replace Jy:=uh (aj Jy.out Cb.out hX)
   replace Cb:=uh (zL Cb.out hX.size)
   replace Qj:=uh (Xt Qj.out.1 (Xg Qj.out.2 hX.size))
   clear hX HCO hfe;cases k9:decide ((Pl.aO acc r.key).length=0)
   ·have SF:Hid (Pl.dq y.kind y.lines (rs.take (k+1))=acc):=by show _=_;rw[eU.out];unfold Pl.dJ;rw[mL,k9];rfl
    rw[← SF.out]at HO;go_wp2;go_roundw
    case rel=>exact⟨k+1,by omega,by go_num,qq.out,HO.out⟩
    case measure=>simp[intOf];omega
   have SF:Hid (Pl.dq y.kind y.lines (rs.take (k+1))=Pl.bS y.kind acc ⟨r.key,r.dflt⟩):=by show _=_;rw[eU.out];unfold Pl.dJ;rw[mL,k9];rfl
   obtain⟨X0,pI⟩:∃ X0,X0=X:=⟨_,rfl⟩
   rw[← pI]at HO qq wQ Lo cU de Jy Cb Qj ⊢;clear pI;have OY:=uh (fun (X:World) (hX:Bel X0 X)=>kS (S:=fun b=>lo≤b∧b≠p) (B:=N) (lo:=N) ⟨y.kind,y.name,acc⟩ ⟨r.key,r.dflt⟩ (.slice la acc.length lc) (.slice a3 r.dflt.length c3) X (wQ.out.later hX) (Lo.out.later hX) (by have:=Ey.out.1;show acc.length≤_;omega) (by have:=Qj.out.2;have:=hX.size;omega));go_upto_region 12 with fail
   refine RY.lk X0 zR (VFc lo N px p o n m2 i rp ro nr rc k y acc r la a3 lc c3) (E6 _ _ _ _ _ _ _ _ _ _ _ _ _ _ _ _ _ _ _ _) (fun _ W'=>pN lo p W' [.row 75 aB] [bV rs] [.slice (some ⟨rp,ro,none⟩) nr rc]∧Xw w b0 px p o n m2 lo (.slice va n vc) (cur.set i ⟨y.kind,y.name,Pl.bS y.kind acc ⟨r.key,r.dflt⟩⟩) W') 21 12 (by kernel_rfl) (by kernel_rfl) (by kernel_rfl) (by kernel_rfl) rfl [19,20] (by kernel_rfl) (by kernel_rfl) _ rfl rfl (by kernel_rfl) ?_ ?_ ?_
   ·intro ii o' ho wJ a X hX hk hd;have zpx:=HO.out.x.later hX;have zpxl:=zpx.lt;match ii,ho with
    |0,rfl|3,rfl=>
     exact RY.p (.pointer (some ⟨px,0,none⟩)) (by simp[execOp,go_sem,RY.K hk 3 (.pointer (some ⟨px,0,none⟩))])
    |1,rfl=>
     have e54:=RY.E1 hd 0 54;have yc:=zpx.get 0 _ rfl;exact RY.p (.slice (some ⟨p,o,none⟩) n m2) (by simp[execOp,go_sem,e54,yc])
    |2,rfl|5,rfl=>
     exact RY.p (.int .i64 (i:Int)) (by simp[execOp,go_sem,RY.K hk 4 (.int .i64 (i:Int))])
    |4,rfl=>
     have e57:=RY.E1 hd 3 57;have yc:=zpx.get 0 _ rfl;exact RY.p (.slice (some ⟨p,o,none⟩) n m2) (by simp[execOp,go_sem,e57,yc])
    |6,rfl=>
     exact RY.p (.pointer (some ⟨p,o+i*3,none⟩)) (by simp[execOp,go_sem,RY.E1 hd 4 58,RY.E1 hd 5 59,iK,iN])
    |7,rfl=>
     have v60:a.eval (.tmp 60)=.pointer (some ⟨p,o+i*3,none⟩):=hd 6 _ 60 rfl rfl ⟨⟨6,.data⟩,by simp,rfl,rfl⟩ (by decide);exact No ⟨_,X,ak 58 _ rfl p (o+i*3) v60 [.string y.kind,.string y.name,.slice la acc.length lc] _ (aj cU.out de.out hX) Tryz.underlying58 rfl (by kernel_rfl),zR,rfl⟩
    |8,rfl|13,rfl=>
     exact RY.p (.slice (some ⟨rp,ro,none⟩) nr rc) (by simp[execOp,go_sem,RY.K hk 5 (.slice (some ⟨rp,ro,none⟩) nr rc)])
    |9,rfl|14,rfl=>
     exact RY.p (.int .i64 (k:Int)) (by simp[execOp,go_sem,RY.K hk 6 (.int .i64 (k:Int))])
    |10,rfl=>
     exact RY.p (.pointer (some ⟨rp,ro+k*4,none⟩)) (by simp[execOp,go_sem,RY.E1 hd 8 62,RY.E1 hd 9 63,cZ,dy])
    |11,rfl=>
     exact RY.p (.pointer (some ⟨rp,ro+k*4,none⟩)) (by simp[execOp,go_sem,RY.E1 hd 10 64])
    |12,rfl=>
     have e65:=RY.E1 hd 11 65;have yp:=zL Cb.out hX.size;have yc:X.cell? ⟨rp,ro+k*4,none⟩=some (.string r.key):=by have q:=aF (aj Jy.out Cb.out hX) 0 _ rfl;simpa using q
     exact RY.p (.string r.key) (by simp[execOp,go_sem,e65,yc])
    |15,rfl=>
     exact RY.p (.pointer (some ⟨rp,ro+k*4,none⟩)) (by simp[execOp,go_sem,RY.E1 hd 13 67,RY.E1 hd 14 68,cZ,dy])
    |16,rfl=>
     exact RY.p (.pointer (some ⟨rp,ro+k*4+3,none⟩)) (by simp[execOp,go_sem,RY.E1 hd 15 69])
    |17,rfl=>
     have e70:=RY.E1 hd 16 70;have yp:=zL Cb.out hX.size;have yc:X.cell? ⟨rp,ro+k*4+3,none⟩=some (.slice a3 r.dflt.length c3):=by have q:=aF (aj Jy.out Cb.out hX) 3 _ rfl;simpa using q
     exact RY.p (.slice a3 r.dflt.length c3) (by simp[execOp,go_sem,e70,yc])
    |18,rfl=>
     exact RY.p (.agg #[.string r.key,.slice a3 r.dflt.length c3]) (by simp[execOp,go_sem,RY.E1 hd 12 66,RY.E1 hd 17 71])
    |19,rfl=>
     have e61:=RY.E1 hd 7 61;have e72:=RY.E1 hd 18 72;refine Xk ⟨27,#[.agg #[.string y.kind,.string y.name,.slice la acc.length lc],.agg #[.string r.key,.slice a3 r.dflt.length c3]],by simp[go_sem,e61,e72],(OY.out X hX).mono ?_⟩;rintro e W' ⟨cc,rfl,hr,hb⟩;exact⟨_,rfl,hb,cc,rfl,hr⟩
    |20,rfl=>
     exact RY.p (.pointer (some ⟨p,o+i*3,none⟩)) (by simp[execOp,go_sem,RY.E1 hd 1 55,RY.E1 hd 2 56,iK,iN])
    |n+21,ho=>omega
   ·intro a X vals hX hk hV hd;obtain⟨cc,e1,hD⟩:=hV 19 (by decide);have e2:a.eval (.tmp 73)=_:=(hd 19 _ 73 rfl rfl ⟨⟨19,.data⟩,by simp,rfl,rfl⟩ (by decide)).trans e1;have e3:a.eval (.tmp 74)=.pointer (some ⟨p,o+i*3,none⟩):=(hd 20 _ 74 rfl rfl ⟨⟨20,.data⟩,by simp,rfl,rfl⟩ (by decide)).trans (hV 20 (by decide));obtain⟨xa2,xc2,hc,Jz⟩:=jy hD;subst hc;have OB:=HO.out.later hX;have bJ:X.there p (o+i*3) 3:=OB.row.there (by rw[YE,jN.out];exact bq);refine⟨X.setCells p (o+i*3) [.string y.kind,.string y.name,.slice xa2 (Pl.bS y.kind acc ⟨r.key,r.dflt⟩).length xc2],RY.dM _ _ _ rfl e3 e2 bJ (by kernel_rfl) (by simp[Value.oneCell']), ?_, ?_⟩
    ·exact(qq.out.later hX).cO (bf (S:=fun b=>b=p) rfl _ _ _)
    ·have:=OB.put fZ.out mP.out HPP.out (by rw[YE,jN.out];exact bq) ⟨y.kind,y.name,Pl.bS y.kind acc ⟨r.key,r.dflt⟩⟩ Jz Qj.out.1;rw[Pl.FI]at this;exact this
   ·intro vals vs X hK bn;simp only[RY.aC,Act.put,so,As,An];generalize vs 54=s54,vs 55=s55,vs 56=s56,vs 57=s57,vs 58=s58,vs 59=s59,vs 60=s60,vs 61=s61,vs 62=s62,vs 63=s63,vs 64=s64,vs 65=s65,vs 66=s66,vs 67=s67,vs 68=s68,vs 69=s69,vs 70=s70,vs 71=s71,vs 72=s72,vs 73=s73,vs 74=s74;clear bn;obtain⟨hR,hO⟩:=hK;rw[← SF.out]at hO;have fS:=uh (Xt hR hO);clear hO hR HO qq;go_wp2;go_roundw
    case rel=>exact⟨k+1,by omega,by go_num,fS.out.1,fS.out.2⟩
    case measure=>simp[intOf];omega
namespace Pl
def cg:List ByteArray:=[{data:=#[]},{data:=#[97,32,119,111,114,100,32,116,104,97,116,32,105,115,32,110,111,110,101]},{data:=#[97,32,108,105,110,101,32,111,117,116,115,105,100,101,32,111,102,32,98,108,111,99,107,115]},{data:=#[110,111,32,115,117,99,104,32,107,105,110,100]},{data:=#[110,111,32,115,117,99,104,32,110,97,109,101]},{data:=#[110,111,32,115,117,99,104,32,107,101,121]},{data:=#[115,97,105,100,32,116,119,105,99,101]},{data:=#[110,111,116,32,119,104,97,116,32,116,104,101,32,107,101,121,32,116,97,107,101,115]},{data:=#[97,32,98,108,111,99,107,32,116,104,97,116,32,105,115,32,110,111,116,32,101,110,100,101,100]},{data:=#[97,32,98,108,111,99,107,32,97,103,97,105,110]},{data:=#[116,111,111,32,109,97,110,121]},{data:=#[116,111,111,32,108,111,110,103]}]
def iw (nm:ByteArray) (line code:Nat):ByteArray:=
 if code=11 then nm++{data:=#[58,32]}++cg.getD code ⟨#[]⟩++{data:=#[10]}
 else nm++{data:=#[58]}++⟨(Lib.decDigits line).toArray⟩++{data:=#[58,32]}++cg.getD code ⟨#[]⟩++{data:=#[10]}
end Pl
theorem Hp (l:List ByteArray) (W:World) (i:Nat) (hi:i<l.length):(W.alloc (.cells (l.map Value.string).toArray 9)).cell? ⟨W.heap.size,i,none⟩=some (.string (l.getD i ⟨#[]⟩)):=by
 refine(World.cell?_alloc_at _ _ _ _ rfl).trans ?_;simp[hi]
def VFt (b0:Nat) (g:Nat) (line:Nat) (code:Nat) (nm:ByteArray) (tb:ByteArray) (dl:ByteArray):Nat→Value→World→Prop
 |0,vv,_=>vv=.string nm
 |1,vv,_=>vv=.string (nm++(⟨#[58]⟩:ByteArray))
 |2,vv,_=>vv=.pointer (some ⟨b0,0,none⟩)
 |3,vv,_=>vv=.int .i64 (line:Int)
 |4,vv,_=>vv=.string dl
 |5,vv,_=>vv=.string (nm++(⟨#[58]⟩:ByteArray)++dl)
 |6,vv,_=>vv=.string (nm++(⟨#[58]⟩:ByteArray)++dl++(⟨#[58,32]⟩:ByteArray))
 |7,vv,_=>vv=.slice (some ⟨g,0,none⟩) 12 12
 |8,vv,_=>vv=.pointer (some ⟨b0,1,none⟩)
 |9,vv,_=>vv=.int .i64 (code:Int)
 |10,vv,_=>vv=.pointer (some ⟨g,code,none⟩)
 |11,vv,_=>vv=.string tb
 |12,vv,_=>vv=.string (nm++(⟨#[58]⟩:ByteArray)++dl++(⟨#[58,32]⟩:ByteArray)++tb)
 |13,vv,_|14,vv,_=>vv=.string (nm++(⟨#[58]⟩:ByteArray)++dl++(⟨#[58,32]⟩:ByteArray)++tb++(⟨#[10]⟩:ByteArray))
 |_,_,_=>True
theorem Fk (b0:Nat) (g:Nat) (line:Nat) (code:Nat) (nm:ByteArray) (tb:ByteArray) (dl:ByteArray):∀ jj vv W W',Bel W W'→VFt b0 g line code nm tb dl jj vv W→VFt b0 g line code nm tb dl jj vv W':=by
 intro jj vv W W' hb h;match jj with
 |0|1|2|3|4|5|6|7|8|9|10|11|12|13|14=>exact h
 |n+15=>exact trivial
theorem uk (nm:ByteArray) (line code:Nat) (hc:code≤11) (hl:line≤1000000000) (il:nm.size≤1000000) (w:World):
  Calls Tryz.prog 7 #[.string nm,.agg #[.int .i64 (line:Nat),.int .i64 (code:Nat)]] w fun e w'=>e=.returned (.string (Pl.iw nm line code))∧Bel w w':=by
 obtain⟨R,hR⟩:∃ R,R=Pl.iw nm line code:=⟨_,rfl⟩
 rw[← hR];unfold Pl.iw at hR;obtain⟨tb,Ee⟩:∃ tb,tb=Pl.cg.getD code ⟨#[]⟩:=⟨_,rfl⟩
 rw[← Ee]at hR;have VO:tb.size≤100:=by
  rw[Ee];have h1:∀ x∈Pl.cg,x.size≤100:=by decide
  have h2:code<Pl.cg.length:=by show code<12;omega
  have e:Pl.cg.getD code ⟨#[]⟩=Pl.cg[code]:=by simp[h2]
  rw[e];exact h1 _ (Xq h2)
 have HR:=uh hR;clear hR;obtain⟨b0,aU⟩:∃ b,b=w.heap.size:=⟨_,rfl⟩
 obtain⟨wa,aP⟩:∃ wa,wa=w.alloc (.cells #[.int .i64 (line:Nat),.int .i64 (code:Nat)] 28):=⟨_,rfl⟩
 have HB:Hid (Bel w wa):=by show Below _ _ _;rw[aP];exact af zR _
 have HF:Hid (au wa b0 [.int .i64 (line:Nat),.int .i64 (code:Nat)]):=by show au _ _ _;rw[aP,aU];exact au.new w #[.int .i64 (line:Nat),.int .i64 (code:Nat)] _ _ rfl
 obtain⟨w2,fw⟩:∃ w2,w2=wa.alloc (.cells #[.string {data:=#[]},.string {data:=#[97,32,119,111,114,100,32,116,104,97,116,32,105,115,32,110,111,110,101]},.string {data:=#[97,32,108,105,110,101,32,111,117,116,115,105,100,101,32,111,102,32,98,108,111,99,107,115]},.string {data:=#[110,111,32,115,117,99,104,32,107,105,110,100]},.string {data:=#[110,111,32,115,117,99,104,32,110,97,109,101]},.string {data:=#[110,111,32,115,117,99,104,32,107,101,121]},.string {data:=#[115,97,105,100,32,116,119,105,99,101]},.string {data:=#[110,111,116,32,119,104,97,116,32,116,104,101,32,107,101,121,32,116,97,107,101,115]},.string {data:=#[97,32,98,108,111,99,107,32,116,104,97,116,32,105,115,32,110,111,116,32,101,110,100,101,100]},.string {data:=#[97,32,98,108,111,99,107,32,97,103,97,105,110]},.string {data:=#[116,111,111,32,109,97,110,121]},.string {data:=#[116,111,111,32,108,111,110,103]}] 9):=⟨_,rfl⟩
 obtain⟨g,hg⟩:∃ g,g=wa.heap.size:=⟨_,rfl⟩
 have dD:Bel wa w2:=by rw[fw];exact af zR _
 have gh:g<w2.heap.size:=by rw[fw,hg];simp
 have Eo:w2.cell? ⟨g,code,none⟩=some (.string tb):=by
  rw[Ee,fw,hg];exact Hp Pl.cg wa code (by show code<12;omega)
 clear Ee;go_enter Tryz.func7,Tryz.ntmps7
 go_upto_region 1 with fail
 rw[← aP,← aU];clear aP aU;go_upto_region 2 with fail
 rw[← fw,← hg];clear fw hg;replace HB:=uh (ae HB.out dD)
 replace HF:=uh (HF.out.later dD)
 clear dD;have cZ:(0:Int)≤(code:Int):=by omega
 have dy:(code:Int)<12:=by omega
 have x1:=HF.out.get 1 _ rfl;have xl:=HF.out.lt;by_cases h11:code=11
 ·have HE:Hid (R=nm++{data:=#[58,32]}++tb++{data:=#[10]}):=by show R=_;rw[HR.out,if_pos h11]
  have hi:((code:Int)=11):=by omega
  subst h11;go_wp2;go_ret;exact⟨by rw[HE.out];rfl,HB.out⟩
 have HE:Hid (R=nm++{data:=#[58]}++⟨(Lib.decDigits line).toArray⟩++{data:=#[58,32]}++tb++{data:=#[10]}):=by show R=_;rw[HR.out,if_neg h11]
 have hi:¬ ((code:Int)=11):=by omega
 obtain⟨dl,kk⟩:∃ dl:ByteArray,dl=⟨(Lib.decDigits line).toArray⟩:=⟨_,rfl⟩
 have gE:Hid (∀ X,Calls Tryz.prog 20 #[.int .i64 (line:Int)] X fun e w'=>e=.returned (.string dl)∧Bel X w'):=fun X=>by rw[kk];exact Fu line hl X
 rw[← kk]at HE;have y9:dl.size≤100:=by
  rw[kk];have:=BL line hl;show (Lib.decDigits line).toArray.size≤100;rw[Yx];omega
 have VL:Hid (w2.rangeAt g code [.string tb]):=fun j u hu=>by
  cases j with
  |zero=>injection hu with hu;rw[← hu];exact Eo
  |succ j=>simp at hu
 have HPG:=uh gh;clear kk Eo gh h11 hl hc;go_upto_region 4 with fail
 clear x1 xl hi;refine RY.bs w2 zR (VFt b0 g line code nm tb dl) (Fk _ _ _ _ _ _ _) (by kernel_rfl) (by kernel_rfl) (by kernel_rfl) (by kernel_rfl) ?_ ?_
 ·intro ii o' ho a X hX hk hd;have zb0:=HF.out.later hX;have zb0l:=zb0.lt;match ii,ho with
  |0,rfl=>
   exact RY.p (.string nm) (by simp[execOp,go_sem,RY.K hk 0 (.string nm)])
  |1,rfl=>
   have e19:=RY.E hd 0 19;refine No ⟨.string (nm++(⟨#[58]⟩:ByteArray)),X, ?_,zR,rfl⟩;simp[execOp,go_sem,e19];try omega
  |2,rfl=>
   exact RY.p (.pointer (some ⟨b0,0,none⟩)) (by simp[execOp,go_sem,RY.K hk 3 (.pointer (some ⟨b0,0,none⟩))])
  |3,rfl=>
   have e21:=RY.E hd 2 21;have ycl_:=zb0.get 0 _ rfl;exact RY.p (.int .i64 (line:Int)) (by simp[execOp,go_sem,e21,ycl_])
  |4,rfl=>
   have e22:=RY.E hd 3 22;refine Xk ⟨20,#[.int .i64 (line:Int)],by simp[go_sem,e22],(gE.out X).mono ?_⟩;rintro e W' ⟨rfl,hb⟩;exact⟨_,rfl,hb,rfl⟩
  |5,rfl=>
   have e20:=RY.E hd 1 20;have e23:=RY.E hd 4 23;refine No ⟨.string (nm++(⟨#[58]⟩:ByteArray)++dl),X, ?_,zR,rfl⟩;simp[execOp,go_sem,e20,e23];try omega
  |6,rfl=>
   have e24:=RY.E hd 5 24;refine No ⟨.string (nm++(⟨#[58]⟩:ByteArray)++dl++(⟨#[58,32]⟩:ByteArray)),X, ?_,zR,rfl⟩;simp[execOp,go_sem,e24];try omega
  |7,rfl=>
   exact RY.p (.slice (some ⟨g,0,none⟩) 12 12) (by simp[execOp,go_sem,RY.K hk 5 (.slice (some ⟨g,0,none⟩) 12 12)])
  |8,rfl=>
   exact RY.p (.pointer (some ⟨b0,1,none⟩)) (by simp[execOp,go_sem,RY.K hk 3 (.pointer (some ⟨b0,0,none⟩))])
  |9,rfl=>
   have e27:=RY.E hd 8 27;have ycl_:=zb0.get 1 _ rfl;exact RY.p (.int .i64 (code:Int)) (by simp[execOp,go_sem,e27,ycl_])
  |10,rfl=>
   exact RY.p (.pointer (some ⟨g,code,none⟩)) (by simp[execOp,go_sem,RY.E hd 7 26,RY.E hd 9 28,cZ,dy])
  |11,rfl=>
   have e29:=RY.E hd 10 29;have ypl_:=zL HPG.out hX.size;have ycl_:X.cell? ⟨g,code,none⟩=some (.string tb):=by have q:=aF (aj VL.out HPG.out hX) 0 _ rfl;simpa using q
   exact RY.p (.string tb) (by simp[execOp,go_sem,e29,ycl_])
  |12,rfl=>
   have e25:=RY.E hd 6 25;have e30:=RY.E hd 11 30;refine No ⟨.string (nm++(⟨#[58]⟩:ByteArray)++dl++(⟨#[58,32]⟩:ByteArray)++tb),X, ?_,zR,rfl⟩;simp[execOp,go_sem,e25,e30];try omega
  |13,rfl=>
   have e31:=RY.E hd 12 31;refine No ⟨.string (nm++(⟨#[58]⟩:ByteArray)++dl++(⟨#[58,32]⟩:ByteArray)++tb++(⟨#[10]⟩:ByteArray)),X, ?_,zR,rfl⟩;simp[execOp,go_sem,e31];try omega
  |14,rfl=>
   exact RY.p (.string (nm++(⟨#[58]⟩:ByteArray)++dl++(⟨#[58,32]⟩:ByteArray)++tb++(⟨#[10]⟩:ByteArray))) (by simp[execOp,go_sem,RY.E hd 13 32])
  |n+15,ho=>simp at ho
 intro X vs hX bn;have q4:vs 4=_:=bn 14 _ 4 rfl rfl;simp only[RY.aC,Act.put,so,As,An];rw[q4];generalize vs 19=s19,vs 20=s20,vs 21=s21,vs 22=s22,vs 23=s23,vs 24=s24,vs 25=s25,vs 26=s26,vs 27=s27,vs 28=s28,vs 29=s29,vs 30=s30,vs 31=sL,vs 32=pS;clear bn q4;clear cZ dy;have jk:=uh (ae HB.out hX);clear hX;go_wp2;go_ret;exact⟨by rw[HE.out];rfl,jk.out⟩
theorem Pl.yn:∀ (ls:List ByteArray) (k:Nat) (st:Pl.PS),Pl.OkP k st→∀ n,k+ls.length≤n→(Pl.parseFrom st ls k).1.length≤n∧∀ b∈(Pl.parseFrom st ls k).1,b.lines.length≤n∧∀ x∈b.lines,x.ws.length≤8
 |[],k,st,h,n,hn=>by
  simp only[XX]at hn;rw[Pl.parseFrom];split
  ·exact⟨zN,fun b hb=>by cases hb⟩
  ·refine⟨?_,fun b hb=>⟨?_,(h.aw b hb).2⟩⟩
   ·have:=h.al;show st.acc.length≤n;omega
   ·have:=(h.aw b hb).1;omega
 |l::r,k,st,h,n,hn=>by
  simp only[Xm]at hn;rw[Pl.parseFrom];split
  ·rename_i hc
   cases hcut:Pl.bo l.data.toList 0 with
   |none=>
    have:Pl.dw st l=1:=by unfold Pl.dw;rw[hcut]
    omega
   |some ws=>
    have e:Pl.gL st l=Pl.cn st ws:=by unfold Pl.gL;rw[hcut]
    have h8:=nj l.data.toList.length l.data.toList 0 zE (by omega) ws hcut;rw[e];exact Pl.yn r (k+1) _ (h.words ws (by omega)) n (by omega)
  ·exact⟨zN,fun b hb=>by cases hb⟩
theorem Pl.xp (t:ByteArray):(Pl.aI t).1.length≤400∧∀ b∈(Pl.aI t).1,b.lines.length≤400∧∀ x∈b.lines,x.ws.length≤8:=by
 unfold Pl.aI;split
 ·exact⟨zN,fun b hb=>by cases hb⟩
 ·split
  ·exact⟨zN,fun b hb=>by cases hb⟩
  ·exact Pl.yn _ 0 _ Pl.QU 400 (by omega)
namespace Pl
def vE (k:Nat):List UInt8:=if k=0 then [58,32] else [44,32]
def ej (l:List Ln):Nat→List UInt8
 |0=> []
 |k+1=>ej l k++(vE k++gp (l.getD k aK))
def lU:List ByteArray:=[⟨#[]⟩,⟨#[45]⟩,⟨#[43]⟩,⟨#[126]⟩,⟨#[126]⟩]
def uF (i:Int):ByteArray:=lU.getD i.toNat ⟨#[]⟩
def hdT (c:Ch):List UInt8:=(uF c.what).data.toList++[32]++c.kind.data.toList++[32]++c.name.data.toList
def unT (c:Ch):List UInt8:=if c.what=4 then [58,32,110,111,32]++c.key.data.toList else []
def chT (c:Ch):List UInt8:=hdT c++unT c++ej c.lines c.lines.length++[10]
def kb (l:List Ch):Nat→List UInt8
 |0=> []
 |i+1=>kb l i++chT (l.getD i ie)
def L9:ByteArray:=⟨#[116,104,101,32,115,97,109,101,10]⟩
def C2 (l:List Ch):ByteArray:=if (kb l l.length).length=0 then L9 else ⟨(kb l l.length).toArray⟩
def CA:ByteArray:=⟨#[111,108,100]⟩
def CD:ByteArray:=⟨#[110,101,119]⟩
def fN (a b:ByteArray):ByteArray:=
 if (aI a).2.2≠0 then iw CA (aI a).2.1 (aI a).2.2
 else if (aI b).2.2≠0 then iw CD (aI b).2.1 (aI b).2.2
 else C2 (bY (bN (aI a).1) (bN (aI b).1))
structure SmC (c:Ch):Prop where
 w1:1≤c.what
 w4:c.what≤4
 kd:c.kind.size≤200
 nm:c.name.size≤200
 ky:c.key.size≤200
 ln:c.lines.length≤1000
 ws:∀ x∈c.lines,wln x≤10000∧x.ws.length≤8
theorem ju (l:List Ln) (h:∀ x∈l,wln x≤10000∧x.ws.length≤8):∀ k,k≤l.length→(ej l k).length≤k*40000
 |0,_=>by simp[ej]
 |k+1,hk=>by
  have h1:=ju l h k (by omega);have e:l.getD k aK=l[k]:=by simp[show k<l.length by omega]
  have h2:=oN (l.getD k aK);have h3:=(h _ (Xq (show k<l.length by omega))).1;rw[← e]at h3;have h4:(vE k).length=2:=by unfold vE;split<;>rfl
  rw[ej,At,At,h4,Nat.succ_mul];omega
theorem rV (i:Int):(uF i).size≤1:=by
 unfold uF;have h1:∀ x∈lU,x.size≤1:=by decide
 by_cases h:i.toNat<lU.length
 ·have e:lU.getD i.toNat ⟨#[]⟩=lU[i.toNat]:=by simp[h]
  rw[e];exact h1 _ (Xq h)
 ·have e:lU.getD i.toNat (⟨#[]⟩:ByteArray)=⟨#[]⟩:=by simp[List.getD_eq_getElem?_getD,List.getElem?_eq_none (Nat.le_of_not_lt h)]
  rw[e];decide
theorem qe {c:Ch} (h:SmC c):(hdT c).length≤500:=by
 have h1:=rV c.what;have h2:=h.kd;have h3:=h.nm;unfold hdT;simp only[At,aD,Xm,XX];omega
theorem vP {c:Ch} (h:SmC c):(unT c).length≤300:=by
 have h3:=h.ky;unfold unT;split
 ·simp only[At,aD,Xm,XX];omega
 ·simp
theorem BU {c:Ch} (h:SmC c):(chT c).length≤50000000:=by
 have h1:=qe h;have h2:=vP h;have h3:=ju c.lines h.ws c.lines.length zE;have h4:=h.ln;unfold chT;simp only[At,Xm,XX];omega
theorem yt (l:List Ch) (h:∀ c∈l,SmC c):∀ k,k≤l.length→(kb l k).length≤k*50000000
 |0,_=>by simp[kb]
 |k+1,hk=>by
  have h1:=yt l h k (by omega);have e:l.getD k ie=l[k]:=by simp[show k<l.length by omega]
  have h2:=BU (h _ (Xq (show k<l.length by omega)));rw[← e]at h2;rw[kb,At,Nat.succ_mul];omega
theorem vy:∀ (n:Nat) (l:List UInt8) (m:Nat),l.length≤n→∀ ws,bo l m=some ws→∀ w∈ws,w.size≤200
 |0,[],m,_,ws,h=>by rw[bo]at h;injection h with h;subst h;simp
 |n+1,[],m,_,ws,h=>by rw[bo]at h;injection h with h;subst h;simp
 |n+1,c::r,m,hl,ws,h=>by
  rw[Xm]at hl;rw[bo]at h;split at h
  ·exact vy n r m (by omega) ws h
  ·split at h
   ·injection h with h;subst h;simp
   ·split at h
    ·cases h
    ·rename_i x k _
     split at h
     ·rename_i hc
      simp only[Xj,decide_eq_true_eq]at hc;obtain⟨y,h1,h2⟩:=XH.1 h;subst h2;intro w hw;rcases XD.1 hw with e|e
      ·subst e;show x.toArray.size≤200;rw[Yx];exact hc.1.2
      ·exact vy n (r.drop k) (m+1) (by rw[Xy];omega) y h1 w e
     ·cases h
def SzB (b:Bl):Prop:=b.name.size≤200∧∀ x∈b.lines,∀ t∈x.ws,t.size≤200
theorem Kl {ws:List ByteArray} (h:∀ w∈ws,w.size≤200) (i:Nat):(ws.getD i aJ).size≤200:=by
 by_cases hi:i<ws.length
 ·have e:ws.getD i aJ=ws[i]:=by simp[hi]
  rw[e];exact h _ (Xq hi)
 ·have e:ws.getD i aJ=aJ:=by simp[List.getD_eq_getElem?_getD,List.getElem?_eq_none (Nat.le_of_not_lt hi)]
  rw[e];decide
theorem J2 {st:PS} (h:SzB st.cur∧∀ b∈st.acc,SzB b) (ws:List ByteArray) (hw:∀ w∈ws,w.size≤200):SzB (cn st ws).cur∧∀ b∈(cn st ws).acc,SzB b:=by
 unfold cn;split
 ·exact h
 ·split
  ·refine⟨h.1,fun b hb=> ?_⟩;rcases(tN _ _ _).1 hb with e|e
   ·rw[e];exact h.1
   ·exact h.2 b e
  ·split
   ·refine⟨?_,h.2⟩;show SzB (bK st.cur ws);unfold bK;split
    ·refine⟨h.1.1,fun x hx=> ?_⟩;rcases(lz _ _ _ _).1 hx with e|e
     ·rw[e];exact fun t ht=>hw t (Ys ht)
     ·exact h.1.2 x e
    ·exact h.1
   ·refine⟨?_,h.2⟩;show SzB (dZ st.acc ws);unfold dZ;split
    ·exact⟨Kl hw 1,fun x hx=>by cases hx⟩
    ·exact⟨zN,fun x hx=>by cases hx⟩
theorem xD:∀ (ls:List ByteArray) (k:Nat) (st:PS),(SzB st.cur∧∀ b∈st.acc,SzB b)→∀ b∈(parseFrom st ls k).1,SzB b
 |[],k,st,h=>by
  rw[parseFrom];split
  ·exact fun b hb=>by cases hb
  ·exact h.2
 |l::r,k,st,h=>by
  rw[parseFrom];split
  ·rename_i hc
   cases hcut:bo l.data.toList 0 with
   |none=>
    have:dw st l=1:=by unfold dw;rw[hcut]
    omega
   |some ws=>
    have e:gL st l=cn st ws:=by unfold gL;rw[hcut]
    rw[e];exact xD r (k+1) _ (J2 h ws (vy _ _ _ zE ws hcut))
  ·exact fun b hb=>by cases hb
structure OkB (b:Bl):Prop where
 nm:b.name.size≤200
 ln:b.lines.length≤500
 ws:∀ x∈b.lines,x.ws.length≤8∧∀ t∈x.ws,t.size≤200
theorem iZ (t:ByteArray):∀ b∈(aI t).1,b.lines.length≤400∧OkB b:=fun b hb=>by
 have h1:=(xp t).2 b hb;have h2:SzB b:=by
  unfold aI at hb;split at hb
  ·cases hb
  ·split at hb
   ·cases hb
   ·exact xD _ 0 oJ ⟨⟨zN,fun x hx=>by cases hx⟩,fun x hx=>by cases hx⟩ b hb
 exact⟨h1.1,⟨h2.1,by omega,fun x hx=>⟨h1.2 x hx,h2.2 x hx⟩⟩⟩
theorem qT (kind:ByteArray):∀ r∈ah kind,r.dflt.length≤8∧(∀ t∈r.dflt,t.size≤200)∧r.key.size≤200:=by
 unfold ah;split
 ·decide
 ·split
  ·decide
  ·split<;>decide
theorem j6 {s:List Bl} (h:∀ b∈s,b.lines.length≤400∧OkB b):∀ b∈bN s,OkB b:=fun b hb=>by
 unfold bN at hb;split at hb
 ·obtain⟨z,hz,e⟩:=YA.1 hb;have hq:=h z hz;subst e;refine⟨hq.2.nm, ?_,fun x hx=> ?_⟩
  ·have h1:=mB z.kind (ah z.kind) z.lines;have h2:=ey z.kind;show (dq z.kind z.lines (ah z.kind)).length≤500;omega
  ·rcases l6 z.kind (ah z.kind) z.lines x hx with q|⟨r,hr,q⟩
   ·exact hq.2.ws x q
   ·have:=qT z.kind r hr;rw[q];exact⟨this.1,this.2.1⟩
 ·cases hb
end Pl
namespace Pl
theorem mW (a:ByteArray):a.toList.length=a.size:=by
 cases a with
 |mk a=>rw[tl];exact Yk
theorem Kx {k:ByteArray} (h:(ah k).length≠0):k.size≤200:=by
 rw[← mW];unfold ah at h;split at h
 ·rename_i q;rw[eq_of_beq q];decide
 ·split at h
  ·rename_i q;rw[eq_of_beq q];decide
  ·split at h
   ·rename_i q;rw[eq_of_beq q];decide
   ·exact absurd rfl h
theorem xn {key:ByteArray}:∀ (l:List Ru) (i j:Nat),(∀ r∈l,r.key.size≤200)→fp key l i=some j→key.size≤200
 |[],_,_,_,h=>by simp[fp]at h
 |r::l,i,j,hl,h=>by
  rw[fp]at h;split at h
  ·rename_i q
   rw[← mW,← eq_of_beq q,mW];exact hl r (by simp)
  ·exact xn l (i+1) j (fun x hx=>hl x (by simp[hx])) h
theorem FJ {kind key:ByteArray} {ws:List ByteArray} (h:bH kind key ws=true):key.size≤200:=by
 unfold bH at h;split at h
 ·cases h
 ·rename_i j q
  exact xn _ 0 j (fun r hr=>(qT kind r hr).2.2) q
theorem yE {s:List Bl} (h:bw s=true):∀ b∈s,b.kind.size≤200∧∀ x∈b.lines,x.key.size≤200:=fun b hb=>by
 obtain⟨i,hi,rfl⟩:=XZ hb;unfold bw at h;rw[Xj,Xu]at h;have h1:=h.2 i (XV.2 hi);have e:s.getD i aG=s[i]:=by simp[hi]
 unfold dQ at h1;rw[e,Xj,Xj,Xj]at h1;refine⟨Kx fun q=> ?_,fun x hx=> ?_⟩
 ·have:=h1.1.1.1;rw[q]at this;simp at this
 ·have h2:=h1.1.2;unfold dA at h2;rw[Xu]at h2;obtain⟨j,hj,rfl⟩:=XZ hx;have h3:=h2 j (XV.2 hj);have e2:(s[i]).lines.getD j aK=(s[i]).lines[j]:=by simp[hj]
  unfold eG at h3;rw[e2,Xj,Xj]at h3;exact FJ h3.1.1
theorem Gm:∀ ws:List ByteArray,(∀ t∈ws,t.size≤200)→wtx ws≤ws.length*201
 |[],_=>by simp[wtx]
 |w::ws,h=>by
  have h1:=Gm ws fun t ht=>h t (by simp[ht]);have h2:=h w (by simp);have e:wtx (w::ws)=(w.size+1)+wtx ws:=by simp[wtx]
  rw[e,Xm,Nat.succ_mul];omega
theorem NN {b:Bl} (h:OkB b) (hk:∀ x∈b.lines,x.key.size≤200):∀ x∈b.lines,wln x≤10000∧x.ws.length≤8:=fun x hx=>by
 have h1:=Gm x.ws (h.ws x hx).2;have h2:=(h.ws x hx).1;have h3:=hk x hx;unfold wln;omega
theorem xR (a b:Bl):∀ rs:List Ru,(rs.flatMap (dh a b)).length≤rs.length
 |[]=>by simp
 |r::rs=>by
  have h1:=xR a b rs;have h2:(dh a b r).length≤1:=by unfold dh;split<;>simp
  rw[XP,At,Xm];omega
theorem JT (a:List Bl) (y:Bl):(bR a y).length≤12:=by
 unfold bR;split
 ·simp
 ·rename_i k _
  have h1:=xR (a.getD k aG) y (ah (a.getD k aG).kind);have h2:=ey (a.getD k aG).kind;unfold fJ;omega
theorem xi (a:List Bl):∀ b:List Bl,(b.flatMap (bR a)).length≤b.length*12
 |[]=>by simp
 |y::b=>by
  have h1:=xi a b;have h2:=JT a y;rw[XP,At,Xm,Nat.succ_mul];omega
theorem qZ (a b:List Bl):(bY a b).length≤1000:=by
 unfold bY;split
 ·rename_i hv
  rw[Xj]at hv;have h1:=fh hv.1;have h2:=fh hv.2;have h3:=xi a b;have h4:=Yz (je b) a;rw[At,XT];omega
 ·simp
theorem KC {a:List Bl} (ha:∀ z∈a,z.kind.size≤200∧z.name.size≤200) (k:Nat):(a.getD k aG).kind.size≤200∧(a.getD k aG).name.size≤200:=by
 by_cases hi:k<a.length
 ·have e:a.getD k aG=a[k]:=by simp[hi]
  rw[e];exact ha _ (Xq hi)
 ·have e:a.getD k aG=aG:=by simp[List.getD_eq_getElem?_getD,List.getElem?_eq_none (Nat.le_of_not_lt hi)]
  rw[e];decide
theorem BA {a b:List Bl} (ha:∀ z∈a,OkB z) (hb:∀ z∈b,OkB z):∀ c∈bY a b,SmC c:=fun c hc=>by
 unfold bY at hc;split at hc
 ·rename_i hv
  rw[Xj]at hv;have va:=yE hv.1;have vb:=yE hv.2;rcases XC.1 hc with q|q
  ·obtain⟨z,hz,e⟩:=YA.1 q;have Sq:=(YD.1 hz).1;subst e;exact⟨show (1:Int)≤1 by decide,show (1:Int)≤4 by decide,(va z Sq).1,(ha z Sq).nm,show aJ.size≤200 by decide,zN,fun x hx=>by cases hx⟩
  ·obtain⟨y,hy,q⟩:=List.mem_flatMap.1 q;have hw:=NN (hb y hy) (vb y hy).2;have hn:=(hb y hy).ln;unfold bR at q;split at q
   ·rw[Yc]at q;subst q;exact⟨show (1:Int)≤2 by decide,show (2:Int)≤4 by decide,(vb y hy).1,(hb y hy).nm,show aJ.size≤200 by decide,by show y.lines.length≤1000;omega,hw⟩
   ·rename_i k _
    obtain⟨r,hr,q⟩:=List.mem_flatMap.1 q;have hg:=KC (fun z hz=>⟨(va z hz).1,(ha z hz).nm⟩) k;unfold dh at q;split at q
    ·cases q
    ·rw[Yc]at q;subst q;have hf:=Yz (fun x=>x.key.toList==r.key.toList) y.lines;refine⟨?_, ?_,hg.1,hg.2,(qT _ r hr).2.2, ?_,fun x hx=>hw x (YD.1 hx).1⟩
     ·show (1:Int)≤if _ then 4 else 3
      split<;>decide
     ·show (if _ then (4:Int) else 3)≤4;split<;>decide
     ·show (aO y.lines r.key).length≤1000;unfold aO;omega
 ·cases hc
end Pl
theorem yy {W:World} {s:List Pl.Ch} {v:Value} (h:Raw W fq [kK s] [v]):(s.length=0∧∃ a c,v=.slice a 0 c)∨∃ p o c,v=.slice (some ⟨p,o,none⟩) s.length c∧p<W.heap.size∧s.length≤maxLen∧∀ k,k<s.length→∃ a c',W.rangeAt p (o+k*5) [.int .i64 (s.getD k Pl.ie).what,.string (s.getD k Pl.ie).kind,.string (s.getD k Pl.ie).name,.string (s.getD k Pl.ie).key,.slice a (s.getD k Pl.ie).lines.length c']∧Raw W aV [bD (s.getD k Pl.ie).lines] [.slice a (s.getD k Pl.ie).lines.length c']:=by
 rcases h.slice with⟨e0,_,a,c,e⟩|⟨p,o,c,hv,hp,dR,vs,hr,hR⟩
 ·exact No ⟨e0,a,c,e⟩
 ·refine Xk ⟨p,o,c,hv,hp,dR.1,fun k hk=> ?_⟩;obtain⟨ve,hE,hg⟩:=hR.el hk hr;have e:el aH.length k (s.flatMap chD)=chD (s.getD k Pl.ie):=jT Pl.ie chD 5 Kg s k hk;rw[e]at hE;obtain⟨v1,hc,r1⟩:=qF hE;subst hc;obtain⟨a1,c1,h1⟩:=r1.aT;subst h1;exact⟨a1,c1,hg,r1⟩
namespace Pl
theorem z6 (b:Bl) (ws:List ByteArray):bX b ws≤11:=by
 unfold bX;split
 ·decide
 ·split
  ·decide
  ·split
   ·decide
   ·split<;>decide
theorem CC (s:List Bl) (ws:List ByteArray):ed s ws≤11:=by
 unfold ed;split
 ·decide
 ·split
  ·decide
  ·split
   ·decide
   ·split
    ·decide
    ·split<;>decide
theorem E8 (st:PS) (l:ByteArray):dw st l≤11:=by
 unfold dw;split
 ·decide
 ·unfold cY;split
  ·decide
  ·split
   ·decide
   ·split
    ·exact z6 _ _
    ·exact CC _ _
theorem BV:∀ (ls:List ByteArray) (k:Nat) (st:PS) (n:Nat),k+ls.length≤n→(parseFrom st ls k).2.2≤11∧(parseFrom st ls k).2.1≤n+1
 |[],k,st,n,hn=>by
  simp only[XX]at hn;rw[parseFrom];split
  ·exact⟨by show (8:Nat)≤11;decide,by show k+1≤n+1;omega⟩
  ·exact⟨zN,zN⟩
 |l::r,k,st,n,hn=>by
  simp only[Xm]at hn;rw[parseFrom];split
  ·exact BV r (k+1) _ n (by omega)
  ·exact⟨E8 st l,by show k+1≤n+1;omega⟩
theorem np (t:ByteArray):(aI t).2.2≤11∧(aI t).2.1≤1000000000:=by
 unfold aI;split
 ·exact⟨by show (11:Nat)≤11;decide,zN⟩
 ·split
  ·exact⟨by show (11:Nat)≤11;decide,zN⟩
  ·have:=BV (fz t) 0 oJ 400 (by omega);exact⟨this.1,by omega⟩
theorem Me {s:List Bl} (h:∀ b∈s,b.lines.length≤400∧OkB b):∀ b∈s,Sm 1048576 b:=fun b hb=>by
 have:=(h b hb).2;exact⟨by have:=this.nm;unfold maxLen;omega,by have:=this.ln;omega,fun x hx=>⟨by have:=(this.ws x hx).1;omega,fun t ht=>by have:=(this.ws x hx).2 t ht;unfold maxLen;omega⟩⟩
theorem tD {s:List Bl} (h:∀ b∈s,OkB b):oi s:=fun b hb=>by
 have:=h b hb;exact⟨by have:=this.nm;unfold maxLen;omega,fun x hx t ht=>by have:=(this.ws x hx).2 t ht;unfold maxLen;omega⟩
theorem vq {s:List Bl} (h:∀ b∈s,OkB b):∀ z∈s,z.lines.length≤4194304∧∀ x∈z.lines,x.ws.length≤4194304:=fun z hz=>by
 have:=h z hz;exact⟨by have:=this.ln;omega,fun x hx=>by have:=(this.ws x hx).1;omega⟩
end Pl
end Go.Proofs.YtgiglpnaekbegaaGreatDoor
