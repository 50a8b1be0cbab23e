import Derived.Test.YtmgibmmpopoboaaEDl
import Derived.Test.YtmgibmmpopoboaaLawFi
namespace Go.Proofs.Ytmgibmmpopoboaa
set_option maxRecDepth 8000
set_option maxHeartbeats 40000000
open Go.RowKit Go.Deep
namespace Pl
def qg (l:List Ln) (x:Ln):Nat:=l.countP fun y=>(y.key.toList==x.key.toList)&&bO y.ws x.ws
theorem r6 {l:List Ln} {p:Ln→Bool} {k:Nat} (hk:k<l.length):(l.take (k+1)).countP p=(l.take k).countP p+if p (l.getD k aQ) then 1 else 0:=by
 rw[dM aQ l k hk,List.countP_append,List.countP_singleton]
end Pl
def VKa (b0:Nat) (p:Nat) (o:Nat) (vc:Nat) (k:Nat) (b:Pl.Bl) (x:Pl.Ln) (y:Pl.Ln):Nat→Value→World→Prop
 |0,vv,_=>vv=.pointer (some ⟨b0,2,none⟩)
 |1,vv,_=>vv=.slice (some ⟨p,o,none⟩) b.lines.length vc
 |2,vv,_=>vv=.int .i64 (k:Int)
 |3,vv,_|4,vv,_=>vv=.pointer (some ⟨p,o+k*2,none⟩)
 |5,vv,_=>vv=.string y.key
 |6,vv,_=>vv=.pointer (some ⟨(b0+1),0,none⟩)
 |7,vv,_=>vv=.string x.key
 |8,vv,_=>vv=.bool (y.key.toList==x.key.toList)
 |_,_,_=>True
theorem AO (b0:Nat) (p:Nat) (o:Nat) (vc:Nat) (k:Nat) (b:Pl.Bl) (x:Pl.Ln) (y:Pl.Ln):∀ jj vv W W',Bel W W'→VKa b0 p o vc k b x y jj vv W→VKa b0 p o vc k b x y jj vv W':=by
 intro jj vv W W' hb h;match jj with
 |0|1|2|3|4|5|6|7|8=>exact h
 |n+9=>exact trivial
def VKb (b0:Nat) (p:Nat) (o:Nat) (vc:Nat) (k:Nat) (b:Pl.Bl) (x:Pl.Ln) (y:Pl.Ln) (wa:Option Addr) (ya:Option Addr) (wc:Nat) (yc:Nat):Nat→Value→World→Prop
 |0,vv,_=>vv=.pointer (some ⟨b0,2,none⟩)
 |1,vv,_=>vv=.slice (some ⟨p,o,none⟩) b.lines.length vc
 |2,vv,_=>vv=.int .i64 (k:Int)
 |3,vv,_=>vv=.pointer (some ⟨p,o+k*2,none⟩)
 |4,vv,_=>vv=.pointer (some ⟨p,o+k*2+1,none⟩)
 |5,vv,_=>vv=.slice ya y.ws.length yc
 |6,vv,_=>vv=.pointer (some ⟨(b0+1),1,none⟩)
 |7,vv,_=>vv=.slice wa x.ws.length wc
 |8,vv,_=>vv=.bool (Pl.bO y.ws x.ws)
 |_,_,_=>True
theorem yZ (b0:Nat) (p:Nat) (o:Nat) (vc:Nat) (k:Nat) (b:Pl.Bl) (x:Pl.Ln) (y:Pl.Ln) (wa:Option Addr) (ya:Option Addr) (wc:Nat) (yc:Nat):∀ jj vv W W',Bel W W'→VKb b0 p o vc k b x y wa ya wc yc jj vv W→VKb b0 p o vc k b x y wa ya wc yc jj vv W':=by
 intro jj vv W W' hb h;match jj with
 |0|1|2|3|4|5|6|7|8=>exact h
 |n+9=>exact trivial
theorem CA (b:Pl.Bl) (x:Pl.Ln) (lv wv:Value) (w:World) (h:Raw w aJ [aU b.lines] [lv]) (hx:Raw w cA [.row x.ws.length (txD x.ws)] [wv]) (hl:b.lines.length≤4194304):
  Calls Try.prog 84 #[.agg #[.string b.kind,.string b.name,lv],.agg #[.string x.key,wv]] w fun e w'=>e=.returned (.tuple #[.int .i64 (Pl.aX b.lines x.key:Nat),.int .i64 (Pl.qg b.lines x:Nat)])∧Bel w w':=by
 have HL:=uh h;have HX:=uh hx;obtain⟨va,vc,ev⟩:=h.aP;subst ev;obtain⟨wa,wc,ev⟩:=hx.aP;subst ev;clear h hx;obtain⟨w0,tz⟩:∃ w0,w0=(w.alloc (.cells #[.string b.kind,.string b.name,.slice va b.lines.length vc] 32)).alloc (.cells #[.string x.key,.slice wa x.ws.length wc] 53):=⟨_,rfl⟩
 obtain⟨b0,bD⟩:∃ b0,b0=w.heap.size:=⟨_,rfl⟩
 have HB:Hid (Bel w w0):=by show Below _ _ _;rw[tz];exact ah (ah zR _) _
 have iL:Hid (aD w0 b0 [.string b.kind,.string b.name,.slice va b.lines.length vc]):=by show aD _ _ _;rw[tz,bD];exact(aD.new w #[.string b.kind,.string b.name,.slice va b.lines.length vc] _ _ rfl).fI _
 have DU:Hid (aD w0 (b0+1) [.string x.key,.slice wa x.ws.length wc]):=by show aD _ _ _;rw[tz,bD];exact aD.new (w.alloc (.cells #[.string b.kind,.string b.name,.slice va b.lines.length vc] 32)) #[.string x.key,.slice wa x.ws.length wc] _ _ (by simp)
 go_enter Try.func84,Try.ntmps84
 go_upto_region 1 with fail
 rw[← tz,← bD];clear tz bD;have HU0:=iL;have HO0:=DU;have cu:=HB;go_wp2;go_loopw [6,7,8] (fun v1 v2 vi wr=>∃ (k c1 c2:Nat),k≤b.lines.length∧v1=.int .i64 c1∧v2=.int .i64 c2∧vi=.int .i64 k∧c1=Pl.aX (b.lines.take k) x.key∧c2=(b.lines.take k).countP (fun y=>(y.key.toList==x.key.toList)&&Pl.bO y.ws x.ws)∧Bel w0 wr) (fun _ _ vi _=>b.lines.length - (intOf vi).toNat)
 case atStart=>exact⟨0,0,0,zN,rfl,rfl,rfl,rfl,rfl,zR⟩
 case round=>
  obtain⟨k,c1,c2,hk,rfl,rfl,rfl,h1,h2,hB⟩:=hrel;replace iL:=uh (HU0.out.ae hB)
  replace DU:=uh (HO0.out.ae hB)
  replace HB:=uh hB
  have jU:c1≤b.lines.length:=by rw[h1];have:=List.countP_le_length (p:=fun y=>Pl.eC y.key x.key) (l:=b.lines.take k);rw[List.length_take]at this;unfold Pl.aX;omega
  have kj:c2≤b.lines.length:=by rw[h2];have:=List.countP_le_length (p:=fun y:Pl.Ln=>(y.key.toList==x.key.toList)&&Pl.bO y.ws x.ws) (l:=b.lines.take k);rw[List.length_take]at this;omega
  have iH:=uh h1;have yj:=uh h2;clear hB h1 h2;have x2:=iL.out.get 2 _ rfl;have xl:=iL.out.lt;by_cases bN:k<b.lines.length
  rotate_left
  ·have kg:b.lines.take k=b.lines:=List.take_of_length_le (by omega);rw[kg]at iH yj;obtain rfl:k=b.lines.length:=by omega
   have qE:¬ ((b.lines.length:Int)<(b.lines.length:Int)):=by omega
   have HEN:Hid (Pl.aX b.lines x.key=c1∧Pl.qg b.lines x=c2):=⟨iH.out.symm,yj.out.symm⟩
   go_wp2;go_ret2;rw[HEN.out.1,HEN.out.2];exact⟨rfl,ai cu.out HB.out⟩
  rcases cX ((HL.out.ae cu.out).ae HB.out) with⟨e0,_⟩|⟨p,o,c,hv,hp,ec,aZ⟩
  ·omega
  injection hv with g1 g2 g3
  subst g1;subst g3;obtain⟨ya,yc,dO,dF⟩:=aZ k bN;have uP:Hid (Pl.aX (b.lines.take (k+1)) x.key=c1+if Pl.eC (b.lines.getD k Pl.aQ).key x.key then 1 else 0):=by show _=_;rw[iH.out];exact Pl.r6 bN
  have qC:Hid (((b.lines.take (k+1)).countP fun y=>(y.key.toList==x.key.toList)&&Pl.bO y.ws x.ws)=c2+if ((b.lines.getD k Pl.aQ).key.toList==x.key.toList)&&Pl.bO (b.lines.getD k Pl.aQ).ws x.ws then 1 else 0):=by show _=_;rw[yj.out];exact Pl.r6 bN
  obtain⟨y,hy⟩:∃ y,y=b.lines.getD k Pl.aQ:=⟨_,rfl⟩
  rw[← hy]at dO dF uP qC;have BV:=uh (fun (X:World) (hX:Bel wr X)=>po y.ws x.ws (.slice ya y.ws.length yc) (.slice wa x.ws.length wc) X (dF.ae hX) (((HX.out.ae cu.out).ae HB.out).ae hX));have eB:=uh dO;have iI:=uh hp;have dd:(0:Int)≤(k:Int):=by omega
  have de:(k:Int)<(b.lines.length:Int):=by omega
  clear hy dO dF hp ec aZ iH yj;go_upto_region 6 with fail
  clear x2 xl;refine RY.cY wr zR (VKa b0 p o vc k b x y) (AO _ _ _ _ _ _ _ _) (by kernel_rfl) (by kernel_rfl) (by kernel_rfl) (by kernel_rfl) ?_ ?_
  ·intro ii o' ho a X hX hk hd;have zb0:=iL.out.ae hX;have zb0l:=zb0.lt;have z_b0___1_:=DU.out.ae hX;have z_b0___1_l:=z_b0___1_.lt;match ii,ho with
   |0,rfl=>
    exact RY.p (.pointer (some ⟨b0,2,none⟩)) (by simp[execOp,go_sem,RY.K hk 2 (.pointer (some ⟨b0,0,none⟩))])
   |1,rfl=>
    have e16:=RY.E hd 0 16;have ycl_:=zb0.get 2 _ rfl;exact RY.p (.slice (some ⟨p,o,none⟩) b.lines.length vc) (by simp[execOp,go_sem,e16,ycl_])
   |2,rfl=>
    exact RY.p (.int .i64 (k:Int)) (by simp[execOp,go_sem,RY.K hk 8 (.int .i64 (k:Int))])
   |3,rfl=>
    exact RY.p (.pointer (some ⟨p,o+k*2,none⟩)) (by simp[execOp,go_sem,RY.E hd 1 17,RY.E hd 2 18,dd,de])
   |4,rfl=>
    exact RY.p (.pointer (some ⟨p,o+k*2,none⟩)) (by simp[execOp,go_sem,RY.E hd 3 19])
   |5,rfl=>
    have e20:=RY.E hd 4 20;have ypl_:=zL iI.out hX.size;have ycl_:X.cell? ⟨p,o+k*2,none⟩=some (.string y.key):=by have q:=aF (aA eB.out iI.out hX) 0 _ rfl;simpa using q
    exact RY.p (.string y.key) (by simp[execOp,go_sem,e20,ycl_])
   |6,rfl=>
    exact RY.p (.pointer (some ⟨(b0+1),0,none⟩)) (by simp[execOp,go_sem,RY.K hk 3 (.pointer (some ⟨(b0+1),0,none⟩))])
   |7,rfl=>
    have e22:=RY.E hd 6 22;have ycl_:=z_b0___1_.get 0 _ rfl;exact RY.p (.string x.key) (by simp[execOp,go_sem,e22,ycl_])
   |8,rfl=>
    exact RY.p (.bool (y.key.toList==x.key.toList)) (by simp[execOp,go_sem,RY.E hd 5 21,RY.E hd 7 23])
   |n+9,ho=>simp at ho
  intro X vs hX bd;have q24:vs 24=_:=bd 8 _ 24 rfl rfl;simp only[RY.aE,Act.put,List.setIfInBounds_toArray,List.set_cons_zero,List.set_cons_succ];rw[q24];generalize vs 16=s16,vs 17=s17,vs 18=s18,vs 19=s19,vs 20=s20,vs 21=s21,vs 22=s22,vs 23=s23;clear bd q24;replace HB:=uh (ai HB.out hX)
  replace iL:=uh (iL.out.ae hX)
  replace DU:=uh (DU.out.ae hX)
  replace eB:=uh (aA eB.out iI.out hX)
  replace iI:=uh (zL iI.out hX.size)
  replace BV:=uh (fun (Y:World) (hY:Bel X Y)=>BV.out Y (ai hX hY))
  clear hX;cases hq:(y.key.toList==x.key.toList)
  ·have KT:Hid (c1=Pl.aX (b.lines.take (k+1)) x.key):=by show _=_;have Hn:Pl.eC y.key x.key=_:=hq;rw[uP.out,Hn];rfl
   have tB:Hid (c2=(b.lines.take (k+1)).countP fun y=>(y.key.toList==x.key.toList)&&Pl.bO y.ws x.ws):=by show _=_;rw[qC.out,hq];rfl
   go_wp2;go_roundw
   case rel=>exact⟨k+1,c1,c2,by omega,by go_num,by go_num,by go_num,KT.out,tB.out,HB.out⟩
   case measure=>simp[intOf];omega
  have KT:Hid (c1+1=Pl.aX (b.lines.take (k+1)) x.key):=by show _=_;have Hn:Pl.eC y.key x.key=_:=hq;rw[uP.out,Hn];rfl
  obtain⟨W1,gq⟩:∃ W1,W1=X:=⟨_,rfl⟩
  rw[← gq]at HB iL DU eB iI BV ⊢;clear gq;go_upto_region 8 with fail
  refine RY.cY W1 zR (VKb b0 p o vc k b x y wa ya wc yc) (yZ _ _ _ _ _ _ _ _ _ _ _ _) (by kernel_rfl) (by kernel_rfl) (by kernel_rfl) (by kernel_rfl) ?_ ?_
  ·intro ii o' ho a X hX hk hd;have zb0:=iL.out.ae hX;have zb0l:=zb0.lt;have z_b0___1_:=DU.out.ae hX;have z_b0___1_l:=z_b0___1_.lt;match ii,ho with
   |0,rfl=>
    exact RY.p (.pointer (some ⟨b0,2,none⟩)) (by simp[execOp,go_sem,RY.K hk 2 (.pointer (some ⟨b0,0,none⟩))])
   |1,rfl=>
    have e27:=RY.E hd 0 27;have ycl_:=zb0.get 2 _ rfl;exact RY.p (.slice (some ⟨p,o,none⟩) b.lines.length vc) (by simp[execOp,go_sem,e27,ycl_])
   |2,rfl=>
    exact RY.p (.int .i64 (k:Int)) (by simp[execOp,go_sem,RY.K hk 8 (.int .i64 (k:Int))])
   |3,rfl=>
    exact RY.p (.pointer (some ⟨p,o+k*2,none⟩)) (by simp[execOp,go_sem,RY.E hd 1 28,RY.E hd 2 29,dd,de])
   |4,rfl=>
    exact RY.p (.pointer (some ⟨p,o+k*2+1,none⟩)) (by simp[execOp,go_sem,RY.E hd 3 30])
   |5,rfl=>
    have e31:=RY.E hd 4 31;have ypl_:=zL iI.out hX.size;have ycl_:X.cell? ⟨p,o+k*2+1,none⟩=some (.slice ya y.ws.length yc):=by have q:=aF (aA eB.out iI.out hX) 1 _ rfl;simpa using q
    exact RY.p (.slice ya y.ws.length yc) (by simp[execOp,go_sem,e31,ycl_])
   |6,rfl=>
    exact RY.p (.pointer (some ⟨(b0+1),1,none⟩)) (by simp[execOp,go_sem,RY.K hk 3 (.pointer (some ⟨(b0+1),0,none⟩))])
   |7,rfl=>
    have e33:=RY.E hd 6 33;have ycl_:=z_b0___1_.get 1 _ rfl;exact RY.p (.slice wa x.ws.length wc) (by simp[execOp,go_sem,e33,ycl_])
   |8,rfl=>
    have e32:=RY.E hd 5 32;have e34:=RY.E hd 7 34;refine Or.inr ⟨27,#[.slice ya y.ws.length yc,.slice wa x.ws.length wc],by simp[go_sem,e32,e34],(BV.out X hX).mono ?_⟩;rintro e W' ⟨rfl,hb⟩;exact⟨_,rfl,hb,rfl⟩
   |n+9,ho=>simp at ho
  intro X vs hX bd;have q35:vs 35=_:=bd 8 _ 35 rfl rfl;simp only[RY.aE,Act.put,List.setIfInBounds_toArray,List.set_cons_zero,List.set_cons_succ];rw[q35];generalize vs 27=s27,vs 28=s28,vs 29=s29,vs 30=s30,vs 31=pY,vs 32=o6,vs 33=og,vs 34=oz;clear bd q35;replace HB:=uh (ai HB.out hX)
  replace iL:=uh (iL.out.ae hX)
  replace DU:=uh (DU.out.ae hX)
  replace eB:=uh (aA eB.out iI.out hX)
  replace iI:=uh (zL iI.out hX.size)
  clear hX;cases hw:Pl.bO y.ws x.ws
  ·have tB:Hid (c2=(b.lines.take (k+1)).countP fun y=>(y.key.toList==x.key.toList)&&Pl.bO y.ws x.ws):=by show _=_;rw[qC.out,hq,hw];rfl
   go_wp2;go_roundw
   case rel=>exact⟨k+1,c1+1,c2,by omega,by go_num,by go_num,by go_num,KT.out,tB.out,HB.out⟩
   case measure=>simp[intOf];omega
  have tB:Hid (c2+1=(b.lines.take (k+1)).countP fun y=>(y.key.toList==x.key.toList)&&Pl.bO y.ws x.ws):=by show _=_;rw[qC.out,hq,hw];rfl
  go_wp2;go_roundw
  case rel=>exact⟨k+1,c1+1,c2+1,by omega,by go_num,by go_num,by go_num,KT.out,tB.out,HB.out⟩
  case measure=>simp[intOf];omega
namespace RY
theorem iz {P:Program} {id:Nat} {Q:Exit→Act→World→Prop} {a0:Act} {w:World} {l:List Oper} (R:Nat) (vv:Value) (len p0:Nat) (uW:Rd w R vv len p0)
  (V:Nat→Value→World→Prop) (hVm:∀ j u W W',Fr R W W'→R<W.heap.size→V j u W→V j u W')
  (K:(Nat→Value)→World→Prop) (n fuel:Nat)
  (hm:P.follows .mixedOrders=true) (hasc:asc .any l.toArray=true) (hap:cZ l=true) (dc:dr l a0.tmps.size=true)
  (hlen:l.length=n+1) (D:List Nat) (hD:(D.all fun d=>decide (d<n)&&waits l n d)=true)
  (hclo:((List.range n).all fun i=>(clo l fuel D).contains i)=true)
  (oS:Oper) (hS:l[n]? =some oS) (hSd:oS.dst=none)
  (jO:((l.take n).all fun o=>o.dst.isSome)=true)
  (jc:∀ (i:Nat) (o:Oper),l[i]? =some o→i<n→∀ (a:Act) (W:World) (p:Nat),Fr R w W→Rd W R vv len p→p≤p0+1000*n→(∀ k,cW l k=true→a.eval (.tmp k)=a0.eval (.tmp k))→
   (∀ (j:Nat) (o':Oper) (k:Nat),l[j]? =some o'→o'.dst=some k→(∃ e∈o.after,e.on=j∧Region.binds .any e=true)→j<n→V j (a.eval (.tmp k)) W)→
   (∃ u W',(execOp a.eval o).run P W=.ok (.value u) W'∧Bel W W'∧V i u W')∨
   (∃ f args,(execOp a.eval o).run P W=.ok (.enter f args) W∧Calls P f args W fun e W'=>∃ u,e=.returned u∧Fr R W W'∧(∃ q,q≤p+1000∧Rd W' R vv len q)∧V i u W'))
  (lZ:∀ (a:Act) (W:World) (vals:Nat→Value) (p:Nat),Fr R w W→Rd W R vv len p→p≤p0+1000*n→(∀ k,cW l k=true→a.eval (.tmp k)=a0.eval (.tmp k))→(∀ j,j<n→V j (vals j) W)→
   (∀ (j:Nat) (o':Oper) (k:Nat),l[j]? =some o'→o'.dst=some k→(∃ e∈oS.after,e.on=j∧Region.binds .any e=true)→j<n→a.eval (.tmp k)=vals j)→
   ∃ W',(execOp a.eval oS).run P W=.ok .skip W'∧K vals W')
  (hend:∀ (vals vs:Nat→Value) (W:World),K vals W→(∀ (i:Nat) (o:Oper) (k:Nat),l[i]? =some o→o.dst=some k→vs k=vals i)→Q .normal (aE l a0 vs) W):
  (Code.region id l.toArray true).wp P Q a0 w:=by
 rw[List.all_eq_true]at hD;refine lH (fun _ _=>True) (fun up vals W=>(up n=false→(Fr R w W∧∃ p,p≤p0+1000*(List.range n).countP up∧Rd W R vv len p)∧∀ j,j<n→up j=true→V j (vals j) W)∧(up n=true→K vals W)) hm hasc hap dc ?_ ?_ ?_
 ·intro vals;exact⟨fun _=>⟨⟨Fr.bh (Below.drew zR) uW.own.lt,p0,by omega,uW.ae (Below.drew zR)⟩,fun j _ h=>by simp at h⟩,fun h=>by simp at h⟩
 ·intro up vals i o ho hi gk a W hk fB hT;have lr:i<n+1:=by rw[← hlen];exact(List.getElem?_eq_some_iff.1 ho).1
  have te:(∀ d∈D,up d=true)→∀ j,j<n→up j=true:=fun h j hj=>by
   rw[List.all_eq_true]at hclo;have:=hclo j (by simp;omega);exact im gk fuel D h j (by simpa using this)
  by_cases oV:up n=true
  ·exfalso;have bC:∀ j,j<n+1→up j=true:=fun j hj=>by
    by_cases e:j=n
    ·rw[e];exact oV
    ·exact te (fun d hd=>by
      have h2:=hD d hd;rw[Bool.and_eq_true,decide_eq_true_eq]at h2;obtain⟨e,he,mF,uG⟩:=bm h2.2 hS;rw[← mF];exact gk n oS e hS he uG oV) j (by omega)
   rw[bC i lr]at hi;cases hi
  ·have oV:up n=false:=by simpa using oV
   obtain⟨⟨hF,p,hp,hR⟩,hV⟩:=hT.1 oV;have Cb:=sg up n;have fA:i<n→o.dst.isSome=true:=fun h=>by
    rw[List.all_eq_true]at jO;exact jO _ (List.mem_of_getElem? (i:=i) (by rw[List.getElem?_take_of_lt h];exact ho))
   by_cases gN:i<n
   ·have key:∀ u W',Fr R W W'→(∃ q,q≤p+1000∧Rd W' R vv len q)→V i u W'→((fun j=>(j==i)||up j) n=false→(Fr R w W'∧∃ p,p≤p0+1000*(List.range n).countP (fun j=>(j==i)||up j)∧Rd W' R vv len p)∧∀ j,j<n→(fun j=>(j==i)||up j) j=true→V j ((fun j=>if j=i then u else vals j) j) W')∧((fun j=>(j==i)||up j) n=true→K (fun j=>if j=i then u else vals j) W'):=fun u W' hW ⟨q,hq,Dd⟩ oe=>by
     refine⟨fun _=>⟨⟨hF.trans hW,q,Nat.le_trans hq (Nat.le_trans (Nat.add_le_add_right hp 1000) (by rw[uo up i n gN hi,Nat.mul_add,Nat.mul_one,Nat.add_assoc];exact zE)),Dd⟩,fun j hj hu=> ?_⟩,fun h=> ?_⟩
     ·by_cases e:j=i
      ·simp only[e,if_true];exact oe
      ·have hu:up j=true:=by simpa [e]using hu
       simp only[e,if_false];exact hVm _ _ _ _ hW hR.own.lt (hV j hj hu)
     ·have:¬ n=i:=by omega
      have:up n=true:=by simpa [this]using h
      rw[oV]at this;cases this
    rcases jc i o ho gN a W p hF hR (by omega) hk (fun j o' k hj jA hd mR=>by
      obtain⟨q1,q2,_⟩:=fB j o' k hj jA hd;rw[q2];exact hV j mR q1) with⟨u,W',hr,hW,oe⟩|⟨f,args,hr,hc⟩
    ·exact Or.inl ⟨u,W',hr,fA gN,trivial,key u W' (Fr.bh hW hR.own.lt) ⟨p,by omega,hR.ae hW⟩ oe⟩
    ·refine Or.inr (Or.inr ⟨f,args,hr,fA gN,hc.mono ?_⟩);rintro e W' ⟨u,rfl,hW,hq,oe⟩;exact⟨u,rfl,trivial,key u W' hW hq oe⟩
   ·obtain rfl:i=n:=by omega
    rw[hS]at ho;injection ho with ho
    subst ho;have eS:∀ j,j<i→up j=true:=te fun d hd=>by
     have h2:=hD d hd;rw[Bool.and_eq_true,decide_eq_true_eq]at h2;obtain⟨e,he,mF,uG⟩:=bm h2.2 hS;have xJ:d<l.length:=by rw[hlen];omega
     have hq:(l[d]).dst.isSome=true:=by
      rw[List.all_eq_true]at jO;exact jO _ (List.mem_of_getElem? (i:=d) (by rw[List.getElem?_take_of_lt h2.1];simp))
     obtain⟨k,jA⟩:=Option.isSome_iff_exists.1 hq;exact(fB d l[d] k (by simp) jA ⟨e,he,mF,uG⟩).1
    obtain⟨W',hr,hK⟩:=lZ a W vals p hF hR (by omega) hk (fun j hj=>hV j hj (eS j hj)) (fun j o' k hj jA hd mR=>(fB j o' k hj jA hd).2.1);exact Or.inr (Or.inl ⟨W',hr,hSd,fun h=>by simp at h,fun _=>hK⟩)
 ·intro up vals vs W bC fK hT;exact hend vals vs W (hT.2 (bC n (by omega))) (fun i o k hi hd=>(fK i o k hi hd).1)
end RY
def gI:List ByteArray:=[{data:=#[116,101,97,109]},{data:=#[98,101,114,116,104]},{data:=#[115,101,114,118,105,99,101]},{data:=#[115,101,114,118,105,99,101]}]
def gK:List ByteArray:=[{data:=#[97]},{data:=#[98]},{data:=#[119,101,98]},{data:=#[100,98,45,49]}]
def LnB (x:Pl.Ln):Prop:=x.key.size≤20∧x.ws.length≤3∧∀ t∈x.ws,t.size≤4000
def BlB (n:Nat) (b:Pl.Bl):Prop:=b.kind.size≤20∧b.name.size≤20∧b.lines.length≤n∧∀ x∈b.lines,LnB x
theorem kH:∀ k∈gI,1≤(Pl.aj k).length∧k.size≤20:=by decide+kernel
theorem wN:∀ k∈gK,k.size≤20:=by decide+kernel
theorem v9 (k:ByteArray):∀ r∈Pl.aj k,r.key.size≤20:=by
 unfold Pl.aj;split
 ·decide+kernel
 ·split
  ·decide+kernel
  ·split<;>decide+kernel
theorem wU {l:List Pl.Ru} {key:ByteArray} (h:∃ r∈l,r.key=key):∃ i,Pl.bJ l key=some i∧i<l.length:=by
 have q:∀ (l:List Pl.Ru) (j:Nat),(∃ r∈l,r.key=key)→∃ i,Pl.eK key l j=some i:=by
  intro l;induction l with
  |nil=>rintro j ⟨r,hr,_⟩;cases hr
  |cons r l ih=>
   rintro j ⟨x,hx,e⟩;rw[Pl.eK];by_cases c:(r.key.toList==key.toList)=true
   ·exact⟨j,by rw[if_pos c]⟩
   ·rw[if_neg c];rcases List.mem_cons.1 hx with q|q
    ·exact absurd (by rw[← q,e];simp) c
    ·exact ih (j+1) ⟨x,q,e⟩
 obtain⟨i,hi⟩:=q l 0 h;exact⟨i,hi,Pl.fm hi⟩
theorem Dat.fr {S:Nat→Prop} {B lo R:Nat} {W X:World} {sh:List Sh} {A:List Dt} {c:List Value} {v v':Value} {n n' p p':Nat} (h:Dat S B lo W sh A c) (hF:Fr R W X) (h1:Rd W R v n p) (h2:Rd X R v' n' p') (hB:B≤R) (hR:R<lo):Dat S B lo X sh A c:=h.aY (hF.eJ h1 h2) (fun b e=>by have:b=R:=e;omega)
structure DB (W0 X:World) (R B0 Q L:Nat) (b:Pl.Bl) (bv:Value):Prop where
 fr:Fr R W0 X
 res:aK X B0 32 [.string {data:=#[]},.string {data:=#[]},.slice none 0 0]
 box:aK X Q 32 [.string b.kind,.string b.name,bv]
 dat:Dat (fun _=>False) 0 L X aJ [aU b.lines] [bv]
 ord:R<W0.heap.size∧W0.heap.size≤B0∧B0<Q∧Q<L∧L≤X.heap.size
theorem DB.step {W0 X X':World} {R B0 Q L:Nat} {b:Pl.Bl} {bv:Value} {v v':Value} {n n' p p':Nat} (h:DB W0 X R B0 Q L b bv) (hF:Fr R X X') (h1:Rd X R v n p) (h2:Rd X' R v' n' p'):DB W0 X' R B0 Q L b bv:=by
 have ho:=h.ord;exact⟨h.fr.trans hF,h.res.fr hF (by omega),h.box.fr hF (by omega),h.dat.fr hF h1 h2 (by omega) (by omega),by have:=hF.bel.size;omega⟩
theorem DB.ae {W0 X X':World} {R B0 Q L:Nat} {b:Pl.Bl} {bv:Value} (h:DB W0 X R B0 Q L b bv) (hb:Bel X X'):DB W0 X' R B0 Q L b bv:=by
 have ho:=h.ord;exact⟨h.fr.trans (Fr.bh hb (by omega)),h.res.ae hb,h.box.ae hb,h.dat.ae hb,by have:=hb.size;omega⟩
theorem DB.put {W0 X:World} {R B0 Q L:Nat} {b:Pl.Bl} {bv v':Value} {ls:List Pl.Ln} (h:DB W0 X R B0 Q L b bv) (hd:Dat (fun _=>False) 0 L X aJ [aU ls] [v']):DB W0 (X.setCells Q 0 [.string b.kind,.string b.name,v']) R B0 Q L ⟨b.kind,b.name,ls⟩ v':=by
 have ho:=h.ord;have m:Marks (fun b=>b=Q) X (X.setCells Q 0 [.string b.kind,.string b.name,v']):=aN (S:=fun b=>b=Q) rfl _ _ _;have t:X.there Q 0 [.string b.kind,.string b.name,v'].length:=aR h.box.own _ _ (by simp);exact⟨h.fr.mks m (fun b e=>by have:b=Q:=e;omega) ho.1,h.res.mks m (by omega),⟨dE _ _ _ h.box.own,World.rangeAt_setCells_same _ _ _ _ t⟩,hd.aY m (fun b e=>by have:b=Q:=e;omega),by have:=m.size;omega⟩
def BQ (p k q:Nat):Prop:=q+300000*k≤p+3000000
theorem Ee {p k q:Nat} (h:BQ p k q):q≤p+3000000:=by unfold BQ at h;omega
theorem mN {p k q q':Nat} (h:BQ p (k+1) q) (h':q'≤q+200000):BQ p k q':=by unfold BQ at h ⊢;omega
theorem Dat.lower {S:Nat→Prop} {B lo lo':Nat} {W:World} {sh:List Sh} {A:List Dt} {c:List Value} (h:Dat S B lo W sh A c) (hl:lo'≤lo):Dat S B lo' W sh A c:=by
 obtain⟨F,r,f⟩:=h;exact⟨F,r,fun b hb=>(f b hb).imp id fun h=>by omega⟩
def VDB (R:Nat) (lo:Nat):Nat→Value→World→Prop
 |0,u,W=>∃ b:Nat,u=.slice (some ⟨b,0,none⟩) 4 4∧R<b∧b<W.heap.size∧∀ j,j<4→W.cell? ⟨b,j,none⟩=some (.string (gI.getD j ⟨#[]⟩))
 |1,u,_=>u=.pointer (some ⟨R,0,none⟩)
 |2,u,_=>∃ j:Nat,u=.int .i64 (j:Int)∧j<4
 |3,u,W=>∃ b j:Nat,u=.pointer (some ⟨b,j,none⟩)∧R<b∧b<W.heap.size∧∃ x∈gI,W.cell? ⟨b,j,none⟩=some (.string x)
 |4,u,_=>∃ x∈gI,u=.string x
 |5,u,W=>∃ b:Nat,u=.slice (some ⟨b,0,none⟩) 4 4∧R<b∧b<W.heap.size∧∀ j,j<4→W.cell? ⟨b,j,none⟩=some (.string (gK.getD j ⟨#[]⟩))
 |6,u,_=>u=.pointer (some ⟨R,0,none⟩)
 |7,u,_=>∃ j:Nat,u=.int .i64 (j:Int)∧j<4
 |8,u,W=>∃ b j:Nat,u=.pointer (some ⟨b,j,none⟩)∧R<b∧b<W.heap.size∧∃ x∈gK,W.cell? ⟨b,j,none⟩=some (.string x)
 |9,u,_=>∃ x∈gK,u=.string x
 |10,u,_=>∃ x∈gI,∃ y∈gK,u=.agg #[.string x,.string y,.slice none 0 0]
 |11,u,W=>∃ q:Nat,u=.pointer (some ⟨q,0,none⟩)∧lo≤q∧R<q∧aK W q 32 [.string {data:=#[]},.string {data:=#[]},.slice none 0 0]
 |_,_,_=>True
theorem Ad (R:Nat) (lo:Nat):∀ j u W W',Fr R W W'→R<W.heap.size→VDB R lo j u W→VDB R lo j u W':=by
 intro j u W W' hb bN h;match j with
 |0=>
  obtain⟨b,e,h1,h2,hc⟩:=h;exact⟨b,e,h1,zL h2 hb.bel.size,fun j hj=>(hb.cell h1 h2).trans (hc j hj)⟩
 |1=>exact h
 |2=>exact h
 |3=>
  obtain⟨b,j,e,h1,h2,x,hx,hc⟩:=h;exact⟨b,j,e,h1,zL h2 hb.bel.size,x,hx,(hb.cell h1 h2).trans hc⟩
 |4=>exact h
 |5=>
  obtain⟨b,e,h1,h2,hc⟩:=h;exact⟨b,e,h1,zL h2 hb.bel.size,fun j hj=>(hb.cell h1 h2).trans (hc j hj)⟩
 |6=>exact h
 |7=>exact h
 |8=>
  obtain⟨b,j,e,h1,h2,x,hx,hc⟩:=h;exact⟨b,j,e,h1,zL h2 hb.bel.size,x,hx,(hb.cell h1 h2).trans hc⟩
 |9=>exact h
 |10=>exact h
 |11=>
  obtain⟨q,e,h1,h2,hw⟩:=h;exact⟨q,e,h1,h2,hw.fr hb h2⟩
 |n+12=>exact trivial
def Ft (sc:Nat):Nat→Value→World→Prop
 |0,vv,_=>vv=.int .i64 (sc:Int)
 |1,vv,_=>vv=.bool false
 |2,vv,_=>vv=.bool false
 |3,vv,_=>vv=undef
 |4,vv,_=>vv=undef
 |5,vv,_=>vv=undef
 |6,vv,_=>vv=undef
 |7,vv,_=>vv=undef
 |8,vv,_=>vv=undef
 |9,vv,_=>vv=undef
 |10,vv,_=>vv=undef
 |11,vv,_=>vv=undef
 |12,vv,_=>vv=undef
 |13,vv,_=>vv=undef
 |14,vv,_=>vv=undef
 |15,vv,_=>vv=undef
 |16,vv,_=>vv=undef
 |17,vv,_=>vv=undef
 |18,vv,_=>vv=.bool false
 |_,_,_=>True
theorem wQ (sc:Nat):∀ jj vv W W',Bel W W'→Ft sc jj vv W→Ft sc jj vv W':=by
 intro jj vv W W' hb h;match jj with
 |0=>exact h
 |1=>exact h
 |2=>exact h
 |3=>exact h
 |4=>exact h
 |5=>exact h
 |6=>exact h
 |7=>exact h
 |8=>exact h
 |9=>exact h
 |10=>exact h
 |11=>exact h
 |12=>exact h
 |13=>exact h
 |14=>exact h
 |15=>exact h
 |16=>exact h
 |17=>exact h
 |18=>exact h
 |n+19=>exact trivial
def FK (sc:Nat) (kc:Nat):Nat→Value→World→Prop
 |0,vv,_=>vv=.int .i64 (sc:Int)
 |1,vv,_=>vv=.bool true
 |2,vv,_=>vv=.bool true
 |3,vv,_=>vv=.int .i64 (kc:Int)
 |4,vv,_=>vv=.bool true
 |5,vv,_=>vv=.bool true
 |6,vv,_=>vv=undef
 |7,vv,_=>vv=undef
 |8,vv,_=>vv=undef
 |9,vv,_=>vv=undef
 |10,vv,_=>vv=undef
 |11,vv,_=>vv=undef
 |12,vv,_=>vv=undef
 |13,vv,_=>vv=undef
 |14,vv,_=>vv=undef
 |15,vv,_=>vv=undef
 |16,vv,_=>vv=undef
 |17,vv,_=>vv=.bool true
 |18,vv,_=>vv=.bool true
 |_,_,_=>True
theorem xD (sc:Nat) (kc:Nat):∀ jj vv W W',Bel W W'→FK sc kc jj vv W→FK sc kc jj vv W':=by
 intro jj vv W W' hb h;match jj with
 |0=>exact h
 |1=>exact h
 |2=>exact h
 |3=>exact h
 |4=>exact h
 |5=>exact h
 |6=>exact h
 |7=>exact h
 |8=>exact h
 |9=>exact h
 |10=>exact h
 |11=>exact h
 |12=>exact h
 |13=>exact h
 |14=>exact h
 |15=>exact h
 |16=>exact h
 |17=>exact h
 |18=>exact h
 |n+19=>exact trivial
def Fk (Q:Nat) (BX:Nat) (b:Pl.Bl) (key:ByteArray) (sc:Nat) (kc:Nat) (ri:Nat) (l:List Pl.Ru) (mn:Bool):Nat→Value→World→Prop
 |0,vv,_=>vv=.int .i64 (sc:Int)
 |1,vv,_=>vv=.bool true
 |2,vv,_=>vv=.bool true
 |3,vv,_=>vv=.int .i64 (kc:Int)
 |4,vv,_=>vv=.bool false
 |5,vv,_=>vv=.bool false
 |6,vv,_=>vv=.pointer (some ⟨Q,0,none⟩)
 |7,vv,_=>vv=.string b.kind
 |8,vv,W=>∃ pl ol cl,vv=.slice (some ⟨pl,ol,none⟩) l.length cl∧pl<W.heap.size∧W.cell? ⟨pl,ol+ri*4+2,none⟩=some (.bool mn)
 |9,vv,_=>vv=.pointer (some ⟨Q,0,none⟩)
 |10,vv,_=>vv=.string b.kind
 |11,vv,_=>vv=.pointer (some ⟨BX,0,none⟩)
 |12,vv,_=>vv=.string key
 |13,vv,_=>vv=.int .i64 (ri:Int)
 |14,vv,W=>∃ pl ol,vv=.pointer (some ⟨pl,ol+ri*4,none⟩)∧pl<W.heap.size∧W.cell? ⟨pl,ol+ri*4+2,none⟩=some (.bool mn)
 |15,vv,W=>∃ pl ol,vv=.pointer (some ⟨pl,ol+ri*4+2,none⟩)∧pl<W.heap.size∧W.cell? ⟨pl,ol+ri*4+2,none⟩=some (.bool mn)
 |16,vv,_=>vv=.bool mn
 |17,vv,_=>vv=.bool mn
 |18,vv,_=>vv=.bool mn
 |_,_,_=>True
theorem wK (Q:Nat) (BX:Nat) (b:Pl.Bl) (key:ByteArray) (sc:Nat) (kc:Nat) (ri:Nat) (l:List Pl.Ru) (mn:Bool):∀ jj vv W W',Bel W W'→Fk Q BX b key sc kc ri l mn jj vv W→Fk Q BX b key sc kc ri l mn jj vv W':=by
 intro jj vv W W' hb h;match jj with
 |0=>exact h
 |1=>exact h
 |2=>exact h
 |3=>exact h
 |4=>exact h
 |5=>exact h
 |6=>exact h
 |7=>exact h
 |8=>
  obtain⟨pl,ol,cl,e,h1,h2⟩:=h;exact⟨pl,ol,cl,e,zL h1 hb.size,(hb.cell (p:=⟨pl,_,none⟩) h1).trans h2⟩
 |9=>exact h
 |10=>exact h
 |11=>exact h
 |12=>exact h
 |13=>exact h
 |14=>
  obtain⟨pl,ol,e,h1,h2⟩:=h;exact⟨pl,ol,e,zL h1 hb.size,(hb.cell (p:=⟨pl,_,none⟩) h1).trans h2⟩
 |15=>
  obtain⟨pl,ol,e,h1,h2⟩:=h;exact⟨pl,ol,e,zL h1 hb.size,(hb.cell (p:=⟨pl,_,none⟩) h1).trans h2⟩
 |16=>exact h
 |17=>exact h
 |18=>exact h
 |n+19=>exact trivial
theorem wg (R:Nat) (v:Value) (len p:Nat) (W0:World) (h:Rd W0 R v len p) (hp:p≤400000000000):
  Calls Try.prog 69 #[.pointer (some ⟨R,0,none⟩)] W0 fun e W'=>(∃ b lv,e=.returned (.agg #[.string b.kind,.string b.name,lv])∧Dat (fun _=>False) 0 W0.heap.size W' aJ [aU b.lines] [lv]∧BlB 7 b)∧Fr R W0 W'∧∃ q,q≤p+3000000∧Rd W' R v len q:=by
 have km:=uh h;clear h;obtain⟨wa,aS⟩:∃ wa,wa=W0.alloc (.cells #[.string {data:=#[]},.string {data:=#[]},.slice none 0 0] 32):=⟨_,rfl⟩
 have gh:Bel W0 wa:=by rw[aS];exact ah zR _
 have iG:Hid (W0.heap.size=W0.heap.size):=rfl;have jB:Hid (R<W0.heap.size):=km.out.own.lt;have cC:Hid (aK wa W0.heap.size 32 [.string {data:=#[]},.string {data:=#[]},.slice none 0 0]):=by show aK _ _ _ _;rw[aS];exact aK.new _ _ _ _ rfl
 have HR:Hid (Rd wa R v len p):=km.out.ae gh;have B3:Hid (Fr R W0 wa):=Fr.bh gh km.out.own.lt;have G7:Hid (R<wa.heap.size):=HR.out.own.lt;have vV:Hid (wa.heap.size=W0.heap.size+1):=by show _=_;rw[aS];simp
 clear gh km;go_enter Try.func69,Try.ntmps69
 go_upto_region 1 with fail
 rw[← aS];clear aS;refine RY.iz R v len p HR.out (VDB R wa.heap.size) (Ad R _) (fun vals W'=>∃ q kd nm,vals 11=.pointer (some ⟨q,0,none⟩)∧kd∈gI∧nm∈gK∧Fr R wa W'∧(∃ p',p'≤p+20000∧Rd W' R v len p')∧wa.heap.size≤q∧aK W' q 32 [.string kd,.string nm,.slice none 0 0]) 12 14 (by kernel_rfl) (by kernel_rfl) (by kernel_rfl) (by kernel_rfl) rfl [10,11] (by kernel_rfl) (by kernel_rfl) _ rfl rfl (by kernel_rfl) ?_ ?_ ?_
 ·intro i' o' ho gN a X pp hX hR tb hk hd;match i',ho with
  |0,ho=>
   injection ho with ho;subst ho
   refine Or.inl ⟨.slice (some ⟨X.heap.size,0,none⟩) 4 4,X.alloc (.cells #[.string {data:=#[116,101,97,109]},.string {data:=#[98,101,114,116,104]},.string {data:=#[115,101,114,118,105,99,101]},.string {data:=#[115,101,114,118,105,99,101]}] 9),by simp[execOp,go_sem],ah zR _,X.heap.size,rfl,hR.own.lt,by simp,fun j hj=>fX gI X j hj⟩
  |1,ho=>
   injection ho with ho;subst ho
   have e0:a.tmps[0]?.getD undef=.pointer (some ⟨R,0,none⟩):=(RY.af a 0).trans ((hk 0 (by kernel_rfl)).trans rfl);exact Or.inl ⟨.pointer (some ⟨R,0,none⟩),X,by simp[execOp,go_sem,e0],zR,rfl⟩
  |2,ho=>
   injection ho with ho;subst ho
   have e9:a.tmps[9]?.getD undef=_:=(RY.af a 9).trans (hd 1 _ 9 rfl rfl ⟨⟨1,.data⟩,by simp,rfl,rfl⟩ (by decide));refine Or.inr ⟨40,#[.pointer (some ⟨R,0,none⟩),.int .i64 4],by simp[go_sem,e9],(bp R v len pp 4 X hR (by omega) (by omega)).mono ?_⟩;rintro e W' ⟨⟨r,rfl,hr⟩,hF,xL⟩;obtain⟨j,rfl,hj⟩:=hr.nat;exact⟨_,rfl,hF,⟨pp+1,by omega,xL⟩,j,rfl,by have:=hj (by omega);omega⟩
  |3,ho=>
   injection ho with ho;subst ho
   obtain⟨b,ea,h1,h2,hc⟩:=hd 0 _ 8 rfl rfl ⟨⟨0,.data⟩,by simp,rfl,rfl⟩ (by decide);obtain⟨j,eb,hj⟩:=hd 2 _ 10 rfl rfl ⟨⟨2,.data⟩,by simp,rfl,rfl⟩ (by decide);have f1:=(RY.af a 8).trans ea;have f2:=(RY.af a 10).trans eb;have sZ:(j:Int)<4:=by omega
   exact Or.inl ⟨.pointer (some ⟨b,j,none⟩),X,by simp[execOp,go_sem,f1,f2,sZ],zR,b,j,rfl,h1,h2,gI.getD j ⟨#[]⟩,by simp[List.getD,List.getElem?_eq_getElem (l:=gI) (show j<gI.length from hj)],hc j hj⟩
  |4,ho=>
   injection ho with ho;subst ho
   obtain⟨b,j,ea,h1,h2,x,hx,hc⟩:=hd 3 _ 11 rfl rfl ⟨⟨3,.data⟩,by simp,rfl,rfl⟩ (by decide);have f1:=(RY.af a 11).trans ea;exact Or.inl ⟨.string x,X,by simp[execOp,go_sem,f1,hc],zR,x,hx,rfl⟩
  |5,ho=>
   injection ho with ho;subst ho
   refine Or.inl ⟨.slice (some ⟨X.heap.size,0,none⟩) 4 4,X.alloc (.cells #[.string {data:=#[97]},.string {data:=#[98]},.string {data:=#[119,101,98]},.string {data:=#[100,98,45,49]}] 9),by simp[execOp,go_sem],ah zR _,X.heap.size,rfl,hR.own.lt,by simp,fun j hj=>fX gK X j hj⟩
  |6,ho=>
   injection ho with ho;subst ho
   have e0:a.tmps[0]?.getD undef=.pointer (some ⟨R,0,none⟩):=(RY.af a 0).trans ((hk 0 (by kernel_rfl)).trans rfl);exact Or.inl ⟨.pointer (some ⟨R,0,none⟩),X,by simp[execOp,go_sem,e0],zR,rfl⟩
  |7,ho=>
   injection ho with ho;subst ho
   have e14:a.tmps[14]?.getD undef=_:=(RY.af a 14).trans (hd 6 _ 14 rfl rfl ⟨⟨6,.data⟩,by simp,rfl,rfl⟩ (by decide));refine Or.inr ⟨40,#[.pointer (some ⟨R,0,none⟩),.int .i64 4],by simp[go_sem,e14],(bp R v len pp 4 X hR (by omega) (by omega)).mono ?_⟩;rintro e W' ⟨⟨r,rfl,hr⟩,hF,xL⟩;obtain⟨j,rfl,hj⟩:=hr.nat;exact⟨_,rfl,hF,⟨pp+1,by omega,xL⟩,j,rfl,by have:=hj (by omega);omega⟩
  |8,ho=>
   injection ho with ho;subst ho
   obtain⟨b,ea,h1,h2,hc⟩:=hd 5 _ 13 rfl rfl ⟨⟨5,.data⟩,by simp,rfl,rfl⟩ (by decide);obtain⟨j,eb,hj⟩:=hd 7 _ 15 rfl rfl ⟨⟨7,.data⟩,by simp,rfl,rfl⟩ (by decide);have f1:=(RY.af a 13).trans ea;have f2:=(RY.af a 15).trans eb;have sZ:(j:Int)<4:=by omega
   exact Or.inl ⟨.pointer (some ⟨b,j,none⟩),X,by simp[execOp,go_sem,f1,f2,sZ],zR,b,j,rfl,h1,h2,gK.getD j ⟨#[]⟩,by simp[List.getD,List.getElem?_eq_getElem (l:=gK) (show j<gK.length from hj)],hc j hj⟩
  |9,ho=>
   injection ho with ho;subst ho
   obtain⟨b,j,ea,h1,h2,x,hx,hc⟩:=hd 8 _ 16 rfl rfl ⟨⟨8,.data⟩,by simp,rfl,rfl⟩ (by decide);have f1:=(RY.af a 16).trans ea;exact Or.inl ⟨.string x,X,by simp[execOp,go_sem,f1,hc],zR,x,hx,rfl⟩
  |10,ho=>
   injection ho with ho;subst ho
   obtain⟨x,hx,ea⟩:=hd 4 _ 12 rfl rfl ⟨⟨4,.data⟩,by simp,rfl,rfl⟩ (by decide);obtain⟨y,hy,eb⟩:=hd 9 _ 17 rfl rfl ⟨⟨9,.data⟩,by simp,rfl,rfl⟩ (by decide);have f1:=(RY.af a 12).trans ea;have f2:=(RY.af a 17).trans eb;exact Or.inl ⟨.agg #[.string x,.string y,.slice none 0 0],X,by simp[execOp,go_sem,f1,f2],zR,x,hx,y,hy,rfl⟩
  |11,ho=>
   injection ho with ho;subst ho
   exact Or.inl ⟨.pointer (some ⟨X.heap.size,0,none⟩),X.alloc (.cells #[.string {data:=#[]},.string {data:=#[]},.slice none 0 0] 32),by simp[execOp,go_sem],ah zR _,X.heap.size,rfl,by have:=hX.bel.size;omega,hR.own.lt,aK.new X [.string {data:=#[]},.string {data:=#[]},.slice none 0 0] 32 _ (by simp)⟩
  |n+12,ho=>omega
 ·intro a X vals pp hX hR tb hk hV hd;obtain⟨kd,DO,nm,vJ,e18⟩:=hV 10 (by decide);obtain⟨q,e3,Ce,Hn,fP⟩:=hV 11 (by decide);have f18:=(hd 10 _ 18 rfl rfl ⟨⟨10,.data⟩,by simp,rfl,rfl⟩ (by decide)).trans e18;have f3:=(hd 11 _ 3 rfl rfl ⟨⟨11,.data⟩,by simp,rfl,rfl⟩ (by decide)).trans e3;have bG:X.there q 0 (#[.string kd,.string nm,.slice none 0 0]:Array Value).size:=aR fP.own _ _ (by simp);have m:Marks (fun b=>b=q) X (X.setCells q 0 [.string kd,.string nm,.slice none 0 0]):=aN (S:=fun b=>b=q) rfl _ _ _;exact⟨X.setCells q 0 [.string kd,.string nm,.slice none 0 0],RY.cn _ _ _ rfl f3 f18 bG (by kernel_rfl) (by simp[Value.oneCell']),q,kd,nm,e3,DO,vJ,hX.mks m (fun b e=>by have:b=q:=e;omega) G7.out,⟨pp,by omega,hR.mks m (fun b e=>by have:b=q:=e;omega)⟩,Ce,dE _ _ _ fP.own,World.rangeAt_setCells_same _ _ _ _ bG⟩
 ·rintro vals vs X hK bd;obtain⟨Q,kd,nm,eq3,DO,vJ,DQ,⟨p1,pW,lg⟩,Ce,fP⟩:=hK;have q3:vs 3=_:=(bd 11 _ 3 rfl rfl).trans eq3;simp only[RY.aE,Act.put,List.setIfInBounds_toArray,List.set_cons_zero,List.set_cons_succ];rw[q3];generalize vs 8=s8,vs 9=s9,vs 10=s10,vs 11=s11,vs 12=s12,vs 13=s13,vs 14=s14,vs 15=s15,vs 16=s16,vs 17=s17,vs 18=s18;clear bd q3 eq3;obtain⟨L,hL⟩:∃ L,L=X.heap.size:=⟨_,rfl⟩
  have EI:Hid (DB W0 X R W0.heap.size Q L ⟨kd,nm,[]⟩ (.slice none 0 0)):=⟨B3.out.trans DQ,cC.out.fr DQ (by have:=iG.out;have:=jB.out;omega),fP,qe,by have:=iG.out;have:=jB.out;have:=fP.own.lt;have:=vV.out;omega⟩
  have gP:=uh lg;have KH:=uh DO;have Iw:=uh vJ;clear DQ lg fP hL DO vJ Ce;have HP:=uh (bp R v len p1 8 X gP.out (by omega) (by omega));go_wp2_with fail
  refine HP.out.mono ?_;rintro e W2 ⟨⟨rm,rfl,ia⟩,eM,eL⟩;obtain⟨n,rfl,hn⟩:=ia.nat;have hn8:n<8:=by have:=hn (by omega);omega
  have BN:=uh (EI.out.step eM gP.out eL);have eO:=uh eL;have AW:Hid (BQ p n (p1+1)):=by show BQ _ _ _;unfold BQ;omega
  clear ia hn eM eL HP EI gP B3 cC HR G7 vV;go_wp2;go_loopw [4] (fun vi wr=>∃ (k q:Nat) (b:Pl.Bl) (bv:Value),k≤7∧vi=.int .i64 k∧DB W0 wr R W0.heap.size Q L b bv∧b.kind=kd∧b.lines.length+k≤7∧BlB 7 b∧BQ p k q∧Rd wr R v len q) (fun vi _=>(intOf vi).toNat)
  case atStart=>exact⟨n,p1+1,⟨kd,nm,[]⟩,_,by omega,rfl,BN.out,rfl,by simp;omega,⟨(kH _ KH.out).2,wN _ Iw.out,by simp,by simp⟩,AW.out,eO.out⟩
  case round=>
   obtain⟨k,q,b,bv,hk7,rfl,hD,DO,gM,hB,hq,hR⟩:=hrel;obtain⟨ba,bc,J9⟩:=hD.dat.raw.aP;subst J9;have HD:=uh hD;have qI:=uh DO;have DH:=uh gM;have gR:=uh hB;have HQ:=uh hq;have ez:=uh hR;clear hD DO gM hB hq hR BN eO AW;by_cases k0:k=0
   ·subst k0;go_upto_region 9 with fail
    have jH:=HD.out.box.at_;have lf:=HD.out.box.own.lt;have bG:wr.there W0.heap.size 0 (#[.string b.kind,.string b.name,.slice ba b.lines.length bc]:Array Value).size:=aR HD.out.res.own _ _ (by simp);obtain⟨we,bj⟩:∃ we,we=wr.setCells W0.heap.size 0 [.string b.kind,.string b.name,.slice ba b.lines.length bc]:=⟨_,rfl⟩
    have dv:we.rangeAt W0.heap.size 0 [.string b.kind,.string b.name,.slice ba b.lines.length bc]:=by rw[bj];exact World.rangeAt_setCells_same _ _ _ _ bG
    have hm:Marks (fun b=>b=W0.heap.size) wr we:=by rw[bj];exact aN (S:=fun b=>b=W0.heap.size) rfl _ _ _
    have ho:=HD.out.ord;have cH:Hid (Dat (fun _=>False) 0 W0.heap.size we aJ [aU b.lines] [.slice ba b.lines.length bc]∧Fr R W0 we∧Rd we R v len q):=⟨Dat.lower (HD.out.dat.aY hm (fun b e=>by have:b=W0.heap.size:=e;omega)) (by omega),HD.out.fr.mks hm (fun b e=>by have:b=W0.heap.size:=e;omega) ho.1,ez.out.mks hm (fun b e=>by have:b=W0.heap.size:=e;omega)⟩
    clear hm ho;go_wp2_with (first|(refine wpList_load_mid rfl 32 _ rfl Q 0 rfl [.string b.kind,.string b.name,.slice ba b.lines.length bc] _ jH Try.underlying32 rfl (by kernel_rfl) ?_)|(refine wpList_store_mid rfl 32 _ _ rfl W0.heap.size 0 #[.string b.kind,.string b.name,.slice ba b.lines.length bc] rfl rfl bG (by kernel_rfl) (by simp[Value.oneCell']) ?_))
    first|rw[← bj]|(simp only[List.toList_toArray];rw[← bj])
    try simp only[Act.put]
    refine bodyPost_ret (v:=.agg #[.string b.kind,.string b.name,.slice ba b.lines.length bc]) (by simp[results,Try.results69,asAddr,run_loadVar_mid (P:=Try.prog) _ _ _ 32 [.string b.kind,.string b.name,.slice ba b.lines.length bc] _ dv Try.underlying32 rfl (by kernel_rfl)]) rfl ?_;exact⟨⟨b,_,rfl,cH.out.1,gR.out⟩,cH.out.2.1,q,by have:=Ee HQ.out;omega,cH.out.2.2⟩
   obtain⟨k,rfl⟩:∃ k',k=k'+1:=⟨k - 1,by omega⟩
   have dd:(0:Int)<((k+1:Nat):Int):=by omega
   have x0:=HD.out.box.get 0 _ rfl;have xl:=HD.out.box.own.lt;have HL:=uh (Ai R v len q b.kind wr ez.out (by have:=Ee HQ.out;omega) (by rw[qI.out];exact(kH _ KH.out).1));go_wp2_with fail
   refine HL.out.mono ?_;rintro e W3 ⟨⟨key,wv,ws,rfl,Hm,fy,K4,kf⟩,iK,q3,Ey,jb⟩;obtain⟨wa,wc,Hv⟩:=TxR.shape Hm;subst Hv;obtain⟨W4,oW⟩:∃ W4,W4=W3.alloc (.cells #[.string key,.slice wa ws.length wc] 53):=⟨_,rfl⟩
   obtain⟨BX,AT⟩:∃ BX,BX=W3.heap.size:=⟨_,rfl⟩
   have qy:Bel W3 W4:=by rw[oW];exact ah zR _
   have qU:Hid (aK W4 BX 53 [.string key,.slice wa ws.length wc]):=by show aK _ _ _ _;rw[oW,AT];exact aK.new _ _ _ _ rfl
   obtain⟨Fx,rx,_,fx⟩:=Hm.done;have BI:Hid (Dat (fun _=>False) 0 L W4 cA [.row ws.length (txD ws)] [.slice wa ws.length wc]):=Dat.ae ⟨Fx,rx,fun b hb=>Or.inr (by have:=fx b hb;have:=HD.out.ord;omega)⟩ qy;have tp:=uh ((HD.out.step iK ez.out jb).ae qy);have mv:=uh (jb.ae qy);have Cd:Hid (LnB ⟨key,ws⟩):=by
    obtain⟨r,hr,e⟩:=kf;exact⟨by rw[← e];exact v9 _ r hr,fy,K4⟩
   obtain⟨l,hl⟩:∃ l,l=Pl.aj b.kind:=⟨_,rfl⟩
   rw[← hl]at kf;obtain⟨ri,JC,Kc⟩:=wU kf;have GU:=uh hl;have HRI:=uh Kc;have oC:Hid (∀ X,Calls Try.prog 26 #[.string b.kind,.string key] X fun e w'=>e=.returned (.int .i64 (ri:Int))∧Bel X w'):=fun X=>by
    have:=fS b.kind key X;rw[← GU.out,JC]at this;exact this
   obtain⟨mn,ld⟩:∃ mn,mn=(l.getD ri Pl.aO).many:=⟨_,rfl⟩
   have HMN:=uh ld;have yy:=uh Ey;go_upto_region 6 with fail
   rw[← oW,← AT];clear oW AT qy Hm fy K4 kf iK Ey jb hl JC Kc ld rx fx x0 xl HL HD ez dd;have xa:=tp.out.box.at_;have xl:=tp.out.box.own.lt;have ya:=qU.out.at_;have yl:=qU.out.own.lt;have HK:=uh (CA b ⟨key,ws⟩ (.slice ba b.lines.length bc) (.slice wa ws.length wc) W4 tp.out.dat.raw BI.out.raw (by have:=DH.out;omega));obtain⟨kc,hkc⟩:∃ kc,kc=Pl.aX b.lines (⟨key,ws⟩:Pl.Ln).key:=⟨_,rfl⟩
   obtain⟨sc,hsc⟩:∃ sc,sc=Pl.qg b.lines ⟨key,ws⟩:=⟨_,rfl⟩
   rw[← hkc,← hsc]at HK;clear hkc hsc;go_upto_region 7 with(first|(refine wpList_load_mid rfl 32 _ rfl Q 0 rfl [.string b.kind,.string b.name,.slice ba b.lines.length bc] _ xa Try.underlying32 rfl (by kernel_rfl) ?_)|(refine wpList_load_mid rfl 53 _ rfl BX 0 rfl [.string key,.slice wa ws.length wc] _ ya Try.underlying53 rfl (by kernel_rfl) ?_)|(go_at_call 84;refine HK.out.mono ?_;rintro e W6 ⟨rfl,mH⟩))
   have Df:=uh (tp.out.ae mH);have BA:=uh (qU.out.ae mH);have Ig:=uh (BI.out.ae mH);have BB:=uh (mv.out.ae mH);have Cj:=uh Df.out.box;clear mH xa xl ya yl HK tp qU BI mv;by_cases hs:sc=0
   rotate_left
   ·have s5:((sc:Int)==0)=false:=by simp;omega
    refine RY.aH W6 zR (Ft sc) (wQ _) (by kernel_rfl) (by kernel_rfl) (by kernel_rfl) (by kernel_rfl) ?_ ?_
    ·intro ii o' ho a X hX hk hd;have zQ:=Cj.out.ae hX;have zQl:=zQ.own.lt;have zBX:=BA.out.ae hX;have zBXl:=zBX.own.lt;match ii,ho with
     |0,ho=>
      injection ho with ho;subst ho
      have e7:a.tmps[7]?.getD undef=.int .i64 (sc:Int):=(RY.af a 7).trans ((hk 7 (by kernel_rfl)).trans rfl);exact Or.inl ⟨RY.al rfl,Or.inl ⟨.int .i64 (sc:Int),X,by simp[execOp,go_sem,e7],zR,rfl⟩⟩
     |1,ho=>
      injection ho with ho;subst ho
      have e35:a.tmps[35]?.getD undef=.int .i64 (sc:Int):=(RY.af a 35).trans (hd 0 _ 35 rfl rfl ⟨⟨0,.data⟩,by simp,rfl,rfl⟩);exact Or.inl ⟨RY.al rfl,Or.inl ⟨.bool false,X,by simp[execOp,go_sem,e35,s5],zR,rfl⟩⟩
     |2,ho=>
      injection ho with ho;subst ho
      have e36:a.tmps[36]?.getD undef=.bool false:=(RY.af a 36).trans (hd 1 _ 36 rfl rfl ⟨⟨1,.data⟩,by simp,rfl,rfl⟩);exact Or.inl ⟨RY.al rfl,Or.inl ⟨.bool false,X,by simp[execOp,go_sem,e36],zR,rfl⟩⟩
     |3,ho=>
      injection ho with ho;subst ho
      have gd:=hd 2 _ 37 rfl rfl ⟨⟨2,.guard⟩,by simp,rfl,rfl⟩;exact Or.inr ⟨(RY.ak rfl rfl rfl gd).trans rfl,rfl⟩
     |4,ho=>
      injection ho with ho;subst ho
      have gd:=hd 2 _ 37 rfl rfl ⟨⟨2,.guard⟩,by simp,rfl,rfl⟩;exact Or.inr ⟨(RY.ak rfl rfl rfl gd).trans rfl,rfl⟩
     |5,ho=>
      injection ho with ho;subst ho
      have gd:=hd 2 _ 37 rfl rfl ⟨⟨2,.guard⟩,by simp,rfl,rfl⟩;exact Or.inr ⟨(RY.ak rfl rfl rfl gd).trans rfl,rfl⟩
     |6,ho=>
      injection ho with ho;subst ho
      have gd:=hd 5 _ 40 rfl rfl ⟨⟨5,.guard⟩,by simp,rfl,rfl⟩;exact Or.inr ⟨RY.cT rfl rfl rfl gd,rfl⟩
     |7,ho=>
      injection ho with ho;subst ho
      have gd:=hd 5 _ 40 rfl rfl ⟨⟨5,.guard⟩,by simp,rfl,rfl⟩;exact Or.inr ⟨RY.cT rfl rfl rfl gd,rfl⟩
     |8,ho=>
      injection ho with ho;subst ho
      have gd:=hd 5 _ 40 rfl rfl ⟨⟨5,.guard⟩,by simp,rfl,rfl⟩;exact Or.inr ⟨RY.cT rfl rfl rfl gd,rfl⟩
     |9,ho=>
      injection ho with ho;subst ho
      have gd:=hd 5 _ 40 rfl rfl ⟨⟨5,.guard⟩,by simp,rfl,rfl⟩;exact Or.inr ⟨RY.cT rfl rfl rfl gd,rfl⟩
     |10,ho=>
      injection ho with ho;subst ho
      have gd:=hd 5 _ 40 rfl rfl ⟨⟨5,.guard⟩,by simp,rfl,rfl⟩;exact Or.inr ⟨RY.cT rfl rfl rfl gd,rfl⟩
     |11,ho=>
      injection ho with ho;subst ho
      have gd:=hd 5 _ 40 rfl rfl ⟨⟨5,.guard⟩,by simp,rfl,rfl⟩;exact Or.inr ⟨RY.cT rfl rfl rfl gd,rfl⟩
     |12,ho=>
      injection ho with ho;subst ho
      have gd:=hd 5 _ 40 rfl rfl ⟨⟨5,.guard⟩,by simp,rfl,rfl⟩;exact Or.inr ⟨RY.cT rfl rfl rfl gd,rfl⟩
     |13,ho=>
      injection ho with ho;subst ho
      have gd:=hd 5 _ 40 rfl rfl ⟨⟨5,.guard⟩,by simp,rfl,rfl⟩;exact Or.inr ⟨RY.cT rfl rfl rfl gd,rfl⟩
     |14,ho=>
      injection ho with ho;subst ho
      have gd:=hd 5 _ 40 rfl rfl ⟨⟨5,.guard⟩,by simp,rfl,rfl⟩;exact Or.inr ⟨RY.cT rfl rfl rfl gd,rfl⟩
     |15,ho=>
      injection ho with ho;subst ho
      have gd:=hd 5 _ 40 rfl rfl ⟨⟨5,.guard⟩,by simp,rfl,rfl⟩;exact Or.inr ⟨RY.cT rfl rfl rfl gd,rfl⟩
     |16,ho=>
      injection ho with ho;subst ho
      have gd:=hd 5 _ 40 rfl rfl ⟨⟨5,.guard⟩,by simp,rfl,rfl⟩;exact Or.inr ⟨RY.cT rfl rfl rfl gd,rfl⟩
     |17,ho=>
      injection ho with ho;subst ho
      have gd:=hd 2 _ 37 rfl rfl ⟨⟨2,.guard⟩,by simp,rfl,rfl⟩;exact Or.inr ⟨(RY.ak rfl rfl rfl gd).trans rfl,rfl⟩
     |18,ho=>
      injection ho with ho;subst ho
      have e37:a.tmps[37]?.getD undef=.bool false:=(RY.af a 37).trans (hd 2 _ 37 rfl rfl ⟨⟨2,.data⟩,by simp,rfl,rfl⟩);have e52:a.tmps[52]?.getD undef=undef:=(RY.af a 52).trans (hd 17 _ 52 rfl rfl ⟨⟨17,.data⟩,by simp,rfl,rfl⟩);exact Or.inl ⟨RY.al rfl,Or.inl ⟨.bool false,X,by simp[execOp,go_sem,e37,e52],zR,rfl⟩⟩
     |n+19,ho=>simp at ho
    intro X vs hX bd;have q53:vs 53=_:=bd 18 _ 53 rfl rfl;simp only[RY.aE,Act.put,List.setIfInBounds_toArray,List.set_cons_zero,List.set_cons_succ];rw[q53];generalize vs 35=k6;generalize vs 36=k9;generalize vs 37=lj;generalize vs 38=lY;generalize vs 39=mu;generalize vs 40=s40;generalize vs 41=s41;generalize vs 42=s42;generalize vs 43=s43;generalize vs 44=s44;generalize vs 45=s45;generalize vs 46=s46;generalize vs 47=s47;generalize vs 48=s48;generalize vs 49=s49;generalize vs 50=qG;generalize vs 51=s51;generalize vs 52=s52;clear bd q53;have oJ:=uh (Df.out.ae hX);have Ea:=uh (BA.out.ae hX);have HU:=uh (Ig.out.ae hX);have xR:=uh (BB.out.ae hX);clear hX Df BA Ig BB Cj;go_wp2;go_roundw
    case rel=>exact⟨k,q3,b,_,by omega,by go_num,oJ.out,qI.out,by have:=DH.out;omega,gR.out,mN HQ.out yy.out,xR.out⟩
    case measure=>simp[intOf]
   have s5:((sc:Int)==0)=true:=by simp;omega
   by_cases MX:kc=0
   ·have GP:((kc:Int)==0)=true:=by simp;omega
    refine RY.aH W6 zR (FK sc kc) (xD _ _) (by kernel_rfl) (by kernel_rfl) (by kernel_rfl) (by kernel_rfl) ?_ ?_
    ·intro ii o' ho a X hX hk hd;have zQ:=Cj.out.ae hX;have zQl:=zQ.own.lt;have zBX:=BA.out.ae hX;have zBXl:=zBX.own.lt;match ii,ho with
     |0,ho=>
      injection ho with ho;subst ho
      have e7:a.tmps[7]?.getD undef=.int .i64 (sc:Int):=(RY.af a 7).trans ((hk 7 (by kernel_rfl)).trans rfl);exact Or.inl ⟨RY.al rfl,Or.inl ⟨.int .i64 (sc:Int),X,by simp[execOp,go_sem,e7],zR,rfl⟩⟩
     |1,ho=>
      injection ho with ho;subst ho
      have e35:a.tmps[35]?.getD undef=.int .i64 (sc:Int):=(RY.af a 35).trans (hd 0 _ 35 rfl rfl ⟨⟨0,.data⟩,by simp,rfl,rfl⟩);exact Or.inl ⟨RY.al rfl,Or.inl ⟨.bool true,X,by simp[execOp,go_sem,e35,s5],zR,rfl⟩⟩
     |2,ho=>
      injection ho with ho;subst ho
      have e36:a.tmps[36]?.getD undef=.bool true:=(RY.af a 36).trans (hd 1 _ 36 rfl rfl ⟨⟨1,.data⟩,by simp,rfl,rfl⟩);exact Or.inl ⟨RY.al rfl,Or.inl ⟨.bool true,X,by simp[execOp,go_sem,e36],zR,rfl⟩⟩
     |3,ho=>
      injection ho with ho;subst ho
      have gd:=hd 2 _ 37 rfl rfl ⟨⟨2,.guard⟩,by simp,rfl,rfl⟩;have e6:a.tmps[6]?.getD undef=.int .i64 (kc:Int):=(RY.af a 6).trans ((hk 6 (by kernel_rfl)).trans rfl);exact Or.inl ⟨(RY.ak rfl rfl rfl gd).trans rfl,Or.inl ⟨.int .i64 (kc:Int),X,by simp[execOp,go_sem,e6],zR,rfl⟩⟩
     |4,ho=>
      injection ho with ho;subst ho
      have gd:=hd 2 _ 37 rfl rfl ⟨⟨2,.guard⟩,by simp,rfl,rfl⟩;have e38:a.tmps[38]?.getD undef=.int .i64 (kc:Int):=(RY.af a 38).trans (hd 3 _ 38 rfl rfl ⟨⟨3,.data⟩,by simp,rfl,rfl⟩);exact Or.inl ⟨(RY.ak rfl rfl rfl gd).trans rfl,Or.inl ⟨.bool true,X,by simp[execOp,go_sem,e38,GP],zR,rfl⟩⟩
     |5,ho=>
      injection ho with ho;subst ho
      have gd:=hd 2 _ 37 rfl rfl ⟨⟨2,.guard⟩,by simp,rfl,rfl⟩;have e39:a.tmps[39]?.getD undef=.bool true:=(RY.af a 39).trans (hd 4 _ 39 rfl rfl ⟨⟨4,.data⟩,by simp,rfl,rfl⟩);exact Or.inl ⟨(RY.ak rfl rfl rfl gd).trans rfl,Or.inl ⟨.bool true,X,by simp[execOp,go_sem,e39],zR,rfl⟩⟩
     |6,ho=>
      injection ho with ho;subst ho
      have gd:=hd 5 _ 40 rfl rfl ⟨⟨5,.guard⟩,by simp,rfl,rfl⟩;exact Or.inr ⟨(RY.ak rfl rfl rfl gd).trans rfl,rfl⟩
     |7,ho=>
      injection ho with ho;subst ho
      have gd:=hd 5 _ 40 rfl rfl ⟨⟨5,.guard⟩,by simp,rfl,rfl⟩;exact Or.inr ⟨(RY.ak rfl rfl rfl gd).trans rfl,rfl⟩
     |8,ho=>
      injection ho with ho;subst ho
      have gd:=hd 5 _ 40 rfl rfl ⟨⟨5,.guard⟩,by simp,rfl,rfl⟩;exact Or.inr ⟨(RY.ak rfl rfl rfl gd).trans rfl,rfl⟩
     |9,ho=>
      injection ho with ho;subst ho
      have gd:=hd 5 _ 40 rfl rfl ⟨⟨5,.guard⟩,by simp,rfl,rfl⟩;exact Or.inr ⟨(RY.ak rfl rfl rfl gd).trans rfl,rfl⟩
     |10,ho=>
      injection ho with ho;subst ho
      have gd:=hd 5 _ 40 rfl rfl ⟨⟨5,.guard⟩,by simp,rfl,rfl⟩;exact Or.inr ⟨(RY.ak rfl rfl rfl gd).trans rfl,rfl⟩
     |11,ho=>
      injection ho with ho;subst ho
      have gd:=hd 5 _ 40 rfl rfl ⟨⟨5,.guard⟩,by simp,rfl,rfl⟩;exact Or.inr ⟨(RY.ak rfl rfl rfl gd).trans rfl,rfl⟩
     |12,ho=>
      injection ho with ho;subst ho
      have gd:=hd 5 _ 40 rfl rfl ⟨⟨5,.guard⟩,by simp,rfl,rfl⟩;exact Or.inr ⟨(RY.ak rfl rfl rfl gd).trans rfl,rfl⟩
     |13,ho=>
      injection ho with ho;subst ho
      have gd:=hd 5 _ 40 rfl rfl ⟨⟨5,.guard⟩,by simp,rfl,rfl⟩;exact Or.inr ⟨(RY.ak rfl rfl rfl gd).trans rfl,rfl⟩
     |14,ho=>
      injection ho with ho;subst ho
      have gd:=hd 5 _ 40 rfl rfl ⟨⟨5,.guard⟩,by simp,rfl,rfl⟩;exact Or.inr ⟨(RY.ak rfl rfl rfl gd).trans rfl,rfl⟩
     |15,ho=>
      injection ho with ho;subst ho
      have gd:=hd 5 _ 40 rfl rfl ⟨⟨5,.guard⟩,by simp,rfl,rfl⟩;exact Or.inr ⟨(RY.ak rfl rfl rfl gd).trans rfl,rfl⟩
     |16,ho=>
      injection ho with ho;subst ho
      have gd:=hd 5 _ 40 rfl rfl ⟨⟨5,.guard⟩,by simp,rfl,rfl⟩;exact Or.inr ⟨(RY.ak rfl rfl rfl gd).trans rfl,rfl⟩
     |17,ho=>
      injection ho with ho;subst ho
      have gd:=hd 2 _ 37 rfl rfl ⟨⟨2,.guard⟩,by simp,rfl,rfl⟩;have e40:a.tmps[40]?.getD undef=.bool true:=(RY.af a 40).trans (hd 5 _ 40 rfl rfl ⟨⟨5,.data⟩,by simp,rfl,rfl⟩);have e51:a.tmps[51]?.getD undef=undef:=(RY.af a 51).trans (hd 16 _ 51 rfl rfl ⟨⟨16,.data⟩,by simp,rfl,rfl⟩);exact Or.inl ⟨(RY.ak rfl rfl rfl gd).trans rfl,Or.inl ⟨.bool true,X,by simp[execOp,go_sem,e40,e51],zR,rfl⟩⟩
     |18,ho=>
      injection ho with ho;subst ho
      have e37:a.tmps[37]?.getD undef=.bool true:=(RY.af a 37).trans (hd 2 _ 37 rfl rfl ⟨⟨2,.data⟩,by simp,rfl,rfl⟩);have e52:a.tmps[52]?.getD undef=.bool true:=(RY.af a 52).trans (hd 17 _ 52 rfl rfl ⟨⟨17,.data⟩,by simp,rfl,rfl⟩);exact Or.inl ⟨RY.al rfl,Or.inl ⟨.bool true,X,by simp[execOp,go_sem,e37,e52],zR,rfl⟩⟩
     |n+19,ho=>simp at ho
    intro X vs hX bd;have q53:vs 53=_:=bd 18 _ 53 rfl rfl;simp only[RY.aE,Act.put,List.setIfInBounds_toArray,List.set_cons_zero,List.set_cons_succ];rw[q53];generalize vs 35=k6;generalize vs 36=k9;generalize vs 37=lj;generalize vs 38=lY;generalize vs 39=mu;generalize vs 40=s40;generalize vs 41=s41;generalize vs 42=s42;generalize vs 43=s43;generalize vs 44=s44;generalize vs 45=s45;generalize vs 46=s46;generalize vs 47=s47;generalize vs 48=s48;generalize vs 49=s49;generalize vs 50=qG;generalize vs 51=s51;generalize vs 52=s52;clear bd q53;have oJ:=uh (Df.out.ae hX);have Ea:=uh (BA.out.ae hX);have HU:=uh (Ig.out.ae hX);have xR:=uh (BB.out.ae hX);clear hX Df BA Ig BB Cj;have uL:=uh (i3 (S:=fun _=>False) (B:=0) (lo:=L) b ⟨key,ws⟩ (.slice ba b.lines.length bc) (.slice wa ws.length wc) X oJ.out.dat HU.out (by have:=DH.out;omega) (by have:=oJ.out.ord;omega));obtain⟨ls,gj⟩:∃ ls,ls=Pl.dD b.kind b.lines ⟨key,ws⟩:=⟨_,rfl⟩
    rw[← gj]at uL;have iJ:Hid (ls.length=b.lines.length+1∧∀ y∈ls,y=⟨key,ws⟩∨y∈b.lines):=⟨by rw[gj,Pl.lO],fun y hy=>(Pl.js _ _ _ _).1 (by rw[gj]at hy;exact hy)⟩
    clear gj;have xa:=oJ.out.box.at_;have xl:=oJ.out.box.own.lt;have ya:=Ea.out.at_;have yl:=Ea.out.own.lt;go_upto_region 4 with(first|(refine wpList_load_mid rfl 32 _ rfl Q 0 rfl [.string b.kind,.string b.name,.slice ba b.lines.length bc] _ xa Try.underlying32 rfl (by kernel_rfl) ?_)|(refine wpList_load_mid rfl 53 _ rfl BX 0 rfl [.string key,.slice wa ws.length wc] _ ya Try.underlying53 rfl (by kernel_rfl) ?_)|(go_at_call 25;refine uL.out.mono ?_;rintro e W8 ⟨c,rfl,BZ,lW⟩;obtain⟨pa,pm,hc,BU⟩:=lN BZ;have kj:c=[.string b.kind,.string b.name,.slice pa ls.length pm]:=hc;clear hc;subst kj;have lS:=uh (oJ.out.ae lW);have yh:=uh (xR.out.ae lW);have x4:=uh BU;have bG:W8.there Q 0 (#[.string b.kind,.string b.name,.slice pa ls.length pm]:Array Value).size:=aR lS.out.box.own _ _ (by simp);clear BU BZ lW xa xl ya yl;have xl:=lS.out.box.own.lt)|(refine wpList_store_mid rfl 32 _ _ rfl Q 0 #[.string b.kind,.string b.name,.slice pa ls.length pm] rfl rfl bG (by kernel_rfl) (by simp[Value.oneCell']) ?_))
    obtain⟨W9,tn⟩:∃ W9,W9=W8.setCells Q 0 [.string b.kind,.string b.name,.slice pa ls.length pm]:=⟨_,rfl⟩
    have I1:Hid (DB W0 W9 R W0.heap.size Q L ⟨b.kind,b.name,ls⟩ (.slice pa ls.length pm)):=by show DB _ _ _ _ _ _ _ _;rw[tn];exact lS.out.put x4.out
    have g9:Hid (Rd W9 R v len q3):=by show Rd _ _ _ _ _;rw[tn];exact yh.out.mks (aN (S:=fun b=>b=Q) rfl _ _ _) (fun b e=>by have:b=Q:=e;have:=lS.out.ord;omega)
    first|rw[← tn]|(simp only[List.toList_toArray];rw[← tn])
    clear tn bG xl lS yh x4 uL;go_wp2;go_roundw
    case rel=>exact⟨k,q3,⟨b.kind,b.name,ls⟩,_,by omega,by go_num,I1.out,qI.out,by have:=DH.out;have:=iJ.out.1;show ls.length+k≤7;omega,⟨gR.out.1,gR.out.2.1,by have:=DH.out;have:=iJ.out.1;show ls.length≤7;omega,fun y hy=>by rcases iJ.out.2 y hy with rfl|h;exact Cd.out;exact gR.out.2.2.2 y h⟩,mN HQ.out yy.out,g9.out⟩
    case measure=>simp[intOf]
   have GP:((kc:Int)==0)=false:=by simp;omega
   refine RY.aH W6 zR (Fk Q BX b key sc kc ri l mn) (wK _ _ _ _ _ _ _ _ _) (by kernel_rfl) (by kernel_rfl) (by kernel_rfl) (by kernel_rfl) ?_ ?_
   ·intro ii o' ho a X hX hk hd;have zQ:=Cj.out.ae hX;have zQl:=zQ.own.lt;have zBX:=BA.out.ae hX;have zBXl:=zBX.own.lt;match ii,ho with
    |0,ho=>
     injection ho with ho;subst ho
     have e7:a.tmps[7]?.getD undef=.int .i64 (sc:Int):=(RY.af a 7).trans ((hk 7 (by kernel_rfl)).trans rfl);exact Or.inl ⟨RY.al rfl,Or.inl ⟨.int .i64 (sc:Int),X,by simp[execOp,go_sem,e7],zR,rfl⟩⟩
    |1,ho=>
     injection ho with ho;subst ho
     have e35:a.tmps[35]?.getD undef=.int .i64 (sc:Int):=(RY.af a 35).trans (hd 0 _ 35 rfl rfl ⟨⟨0,.data⟩,by simp,rfl,rfl⟩);exact Or.inl ⟨RY.al rfl,Or.inl ⟨.bool true,X,by simp[execOp,go_sem,e35,s5],zR,rfl⟩⟩
    |2,ho=>
     injection ho with ho;subst ho
     have e36:a.tmps[36]?.getD undef=.bool true:=(RY.af a 36).trans (hd 1 _ 36 rfl rfl ⟨⟨1,.data⟩,by simp,rfl,rfl⟩);exact Or.inl ⟨RY.al rfl,Or.inl ⟨.bool true,X,by simp[execOp,go_sem,e36],zR,rfl⟩⟩
    |3,ho=>
     injection ho with ho;subst ho
     have gd:=hd 2 _ 37 rfl rfl ⟨⟨2,.guard⟩,by simp,rfl,rfl⟩;have e6:a.tmps[6]?.getD undef=.int .i64 (kc:Int):=(RY.af a 6).trans ((hk 6 (by kernel_rfl)).trans rfl);exact Or.inl ⟨(RY.ak rfl rfl rfl gd).trans rfl,Or.inl ⟨.int .i64 (kc:Int),X,by simp[execOp,go_sem,e6],zR,rfl⟩⟩
    |4,ho=>
     injection ho with ho;subst ho
     have gd:=hd 2 _ 37 rfl rfl ⟨⟨2,.guard⟩,by simp,rfl,rfl⟩;have e38:a.tmps[38]?.getD undef=.int .i64 (kc:Int):=(RY.af a 38).trans (hd 3 _ 38 rfl rfl ⟨⟨3,.data⟩,by simp,rfl,rfl⟩);exact Or.inl ⟨(RY.ak rfl rfl rfl gd).trans rfl,Or.inl ⟨.bool false,X,by simp[execOp,go_sem,e38,GP],zR,rfl⟩⟩
    |5,ho=>
     injection ho with ho;subst ho
     have gd:=hd 2 _ 37 rfl rfl ⟨⟨2,.guard⟩,by simp,rfl,rfl⟩;have e39:a.tmps[39]?.getD undef=.bool false:=(RY.af a 39).trans (hd 4 _ 39 rfl rfl ⟨⟨4,.data⟩,by simp,rfl,rfl⟩);exact Or.inl ⟨(RY.ak rfl rfl rfl gd).trans rfl,Or.inl ⟨.bool false,X,by simp[execOp,go_sem,e39],zR,rfl⟩⟩
    |6,ho=>
     injection ho with ho;subst ho
     have gd:=hd 5 _ 40 rfl rfl ⟨⟨5,.guard⟩,by simp,rfl,rfl⟩;have e3:a.tmps[3]?.getD undef=.pointer (some ⟨Q,0,none⟩):=(RY.af a 3).trans ((hk 3 (by kernel_rfl)).trans rfl);exact Or.inl ⟨(RY.ak rfl rfl rfl gd).trans rfl,Or.inl ⟨.pointer (some ⟨Q,0,none⟩),X,by simp[execOp,go_sem,e3],zR,rfl⟩⟩
    |7,ho=>
     injection ho with ho;subst ho
     have gd:=hd 5 _ 40 rfl rfl ⟨⟨5,.guard⟩,by simp,rfl,rfl⟩;have e41:a.tmps[41]?.getD undef=.pointer (some ⟨Q,0,none⟩):=(RY.af a 41).trans (hd 6 _ 41 rfl rfl ⟨⟨6,.data⟩,by simp,rfl,rfl⟩);have ycl_:=zQ.get 0 _ rfl;exact Or.inl ⟨(RY.ak rfl rfl rfl gd).trans rfl,Or.inl ⟨.string b.kind,X,by simp[execOp,go_sem,e41,ycl_],zR,rfl⟩⟩
    |8,ho=>
     injection ho with ho;subst ho
     have gd:=hd 5 _ 40 rfl rfl ⟨⟨5,.guard⟩,by simp,rfl,rfl⟩;have e42:a.tmps[42]?.getD undef=.string b.kind:=(RY.af a 42).trans (hd 7 _ 42 rfl rfl ⟨⟨7,.data⟩,by simp,rfl,rfl⟩);refine Or.inl ⟨(RY.ak rfl rfl rfl gd).trans rfl,Or.inr ⟨23,#[.string b.kind],by simp[go_sem,e42],(cB b.kind X).mono ?_⟩⟩;rintro e W' ⟨lv,F,rfl,hr,nd,fr,hb⟩;rw[← GU.out]at hr;obtain⟨pl,ol,cl,a1,c1,a3,n3,c3,F4,hv,dc,hg,_⟩:=pI hr HRI.out;subst hv;exact⟨_,rfl,hb,pl,ol,cl,rfl,dc,by rw[HMN.out];exact aF hg 2 _ rfl⟩
    |9,ho=>
     injection ho with ho;subst ho
     have gd:=hd 5 _ 40 rfl rfl ⟨⟨5,.guard⟩,by simp,rfl,rfl⟩;have e3:a.tmps[3]?.getD undef=.pointer (some ⟨Q,0,none⟩):=(RY.af a 3).trans ((hk 3 (by kernel_rfl)).trans rfl);exact Or.inl ⟨(RY.ak rfl rfl rfl gd).trans rfl,Or.inl ⟨.pointer (some ⟨Q,0,none⟩),X,by simp[execOp,go_sem,e3],zR,rfl⟩⟩
    |10,ho=>
     injection ho with ho;subst ho
     have gd:=hd 5 _ 40 rfl rfl ⟨⟨5,.guard⟩,by simp,rfl,rfl⟩;have e44:a.tmps[44]?.getD undef=.pointer (some ⟨Q,0,none⟩):=(RY.af a 44).trans (hd 9 _ 44 rfl rfl ⟨⟨9,.data⟩,by simp,rfl,rfl⟩);have ycl_:=zQ.get 0 _ rfl;exact Or.inl ⟨(RY.ak rfl rfl rfl gd).trans rfl,Or.inl ⟨.string b.kind,X,by simp[execOp,go_sem,e44,ycl_],zR,rfl⟩⟩
    |11,ho=>
     injection ho with ho;subst ho
     have gd:=hd 5 _ 40 rfl rfl ⟨⟨5,.guard⟩,by simp,rfl,rfl⟩;have e5:a.tmps[5]?.getD undef=.pointer (some ⟨BX,0,none⟩):=(RY.af a 5).trans ((hk 5 (by kernel_rfl)).trans rfl);exact Or.inl ⟨(RY.ak rfl rfl rfl gd).trans rfl,Or.inl ⟨.pointer (some ⟨BX,0,none⟩),X,by simp[execOp,go_sem,e5],zR,rfl⟩⟩
    |12,ho=>
     injection ho with ho;subst ho
     have gd:=hd 5 _ 40 rfl rfl ⟨⟨5,.guard⟩,by simp,rfl,rfl⟩;have e46:a.tmps[46]?.getD undef=.pointer (some ⟨BX,0,none⟩):=(RY.af a 46).trans (hd 11 _ 46 rfl rfl ⟨⟨11,.data⟩,by simp,rfl,rfl⟩);have ycl_:=zBX.get 0 _ rfl;exact Or.inl ⟨(RY.ak rfl rfl rfl gd).trans rfl,Or.inl ⟨.string key,X,by simp[execOp,go_sem,e46,ycl_],zR,rfl⟩⟩
    |13,ho=>
     injection ho with ho;subst ho
     have gd:=hd 5 _ 40 rfl rfl ⟨⟨5,.guard⟩,by simp,rfl,rfl⟩;have e45:a.tmps[45]?.getD undef=.string b.kind:=(RY.af a 45).trans (hd 10 _ 45 rfl rfl ⟨⟨10,.data⟩,by simp,rfl,rfl⟩);have e47:a.tmps[47]?.getD undef=.string key:=(RY.af a 47).trans (hd 12 _ 47 rfl rfl ⟨⟨12,.data⟩,by simp,rfl,rfl⟩);refine Or.inl ⟨(RY.ak rfl rfl rfl gd).trans rfl,Or.inr ⟨26,#[.string b.kind,.string key],by simp[go_sem,e45,e47],(oC.out X).mono ?_⟩⟩;rintro e W' ⟨rfl,hb⟩;exact⟨_,rfl,hb,rfl⟩
    |14,ho=>
     injection ho with ho;subst ho
     have gd:=hd 5 _ 40 rfl rfl ⟨⟨5,.guard⟩,by simp,rfl,rfl⟩;obtain⟨pl,ol,cl,q43,dc,gk⟩:=hd 8 _ 43 rfl rfl ⟨⟨8,.data⟩,by simp,rfl,rfl⟩;have e43:a.tmps[43]?.getD undef=.slice (some ⟨pl,ol,none⟩) l.length cl:=(RY.af a 43).trans q43;have e48:a.tmps[48]?.getD undef=.int .i64 (ri:Int):=(RY.af a 48).trans (hd 13 _ 48 rfl rfl ⟨⟨13,.data⟩,by simp,rfl,rfl⟩);have eT:(0:Int)≤(ri:Int):=by omega
     have gN:(ri:Int)<(l.length:Int):=by have:=HRI.out;omega
     exact Or.inl ⟨(RY.ak rfl rfl rfl gd).trans rfl,Or.inl ⟨.pointer (some ⟨pl,ol+ri*4,none⟩),X,by simp[execOp,go_sem,e43,e48,eT,gN],zR,pl,ol,rfl,dc,gk⟩⟩
    |15,ho=>
     injection ho with ho;subst ho
     have gd:=hd 5 _ 40 rfl rfl ⟨⟨5,.guard⟩,by simp,rfl,rfl⟩;obtain⟨pl,ol,q49,dc,gk⟩:=hd 14 _ 49 rfl rfl ⟨⟨14,.data⟩,by simp,rfl,rfl⟩;have e49:a.tmps[49]?.getD undef=.pointer (some ⟨pl,ol+ri*4,none⟩):=(RY.af a 49).trans q49;exact Or.inl ⟨(RY.ak rfl rfl rfl gd).trans rfl,Or.inl ⟨.pointer (some ⟨pl,ol+ri*4+2,none⟩),X,by simp[execOp,go_sem,e49],zR,pl,ol,rfl,dc,gk⟩⟩
    |16,ho=>
     injection ho with ho;subst ho
     have gd:=hd 5 _ 40 rfl rfl ⟨⟨5,.guard⟩,by simp,rfl,rfl⟩;obtain⟨pl,ol,q50,dc,gk⟩:=hd 15 _ 50 rfl rfl ⟨⟨15,.data⟩,by simp,rfl,rfl⟩;have e50:a.tmps[50]?.getD undef=.pointer (some ⟨pl,ol+ri*4+2,none⟩):=(RY.af a 50).trans q50;exact Or.inl ⟨(RY.ak rfl rfl rfl gd).trans rfl,Or.inl ⟨.bool mn,X,by simp[execOp,go_sem,e50,gk],zR,rfl⟩⟩
    |17,ho=>
     injection ho with ho;subst ho
     have gd:=hd 2 _ 37 rfl rfl ⟨⟨2,.guard⟩,by simp,rfl,rfl⟩;have e40:a.tmps[40]?.getD undef=.bool false:=(RY.af a 40).trans (hd 5 _ 40 rfl rfl ⟨⟨5,.data⟩,by simp,rfl,rfl⟩);have e51:a.tmps[51]?.getD undef=.bool mn:=(RY.af a 51).trans (hd 16 _ 51 rfl rfl ⟨⟨16,.data⟩,by simp,rfl,rfl⟩);exact Or.inl ⟨(RY.ak rfl rfl rfl gd).trans rfl,Or.inl ⟨.bool mn,X,by simp[execOp,go_sem,e40,e51],zR,rfl⟩⟩
    |18,ho=>
     injection ho with ho;subst ho
     have e37:a.tmps[37]?.getD undef=.bool true:=(RY.af a 37).trans (hd 2 _ 37 rfl rfl ⟨⟨2,.data⟩,by simp,rfl,rfl⟩);have e52:a.tmps[52]?.getD undef=.bool mn:=(RY.af a 52).trans (hd 17 _ 52 rfl rfl ⟨⟨17,.data⟩,by simp,rfl,rfl⟩);exact Or.inl ⟨RY.al rfl,Or.inl ⟨.bool mn,X,by simp[execOp,go_sem,e37,e52],zR,rfl⟩⟩
    |n+19,ho=>simp at ho
   intro X vs hX bd;have q53:vs 53=_:=bd 18 _ 53 rfl rfl;simp only[RY.aE,Act.put,List.setIfInBounds_toArray,List.set_cons_zero,List.set_cons_succ];rw[q53];generalize vs 35=k6;generalize vs 36=k9;generalize vs 37=lj;generalize vs 38=lY;generalize vs 39=mu;generalize vs 40=s40;generalize vs 41=s41;generalize vs 42=s42;generalize vs 43=s43;generalize vs 44=s44;generalize vs 45=s45;generalize vs 46=s46;generalize vs 47=s47;generalize vs 48=s48;generalize vs 49=s49;generalize vs 50=qG;generalize vs 51=s51;generalize vs 52=s52;clear bd q53;have oJ:=uh (Df.out.ae hX);have Ea:=uh (BA.out.ae hX);have HU:=uh (Ig.out.ae hX);have xR:=uh (BB.out.ae hX);clear hX Df BA Ig BB Cj;cases mn with
   |false=>
    go_wp2;go_roundw
    case rel=>exact⟨k,q3,b,_,by omega,by go_num,oJ.out,qI.out,by have:=DH.out;omega,gR.out,mN HQ.out yy.out,xR.out⟩
    case measure=>simp[intOf]
   |true=>
    have uL:=uh (i3 (S:=fun _=>False) (B:=0) (lo:=L) b ⟨key,ws⟩ (.slice ba b.lines.length bc) (.slice wa ws.length wc) X oJ.out.dat HU.out (by have:=DH.out;omega) (by have:=oJ.out.ord;omega));obtain⟨ls,gj⟩:∃ ls,ls=Pl.dD b.kind b.lines ⟨key,ws⟩:=⟨_,rfl⟩
    rw[← gj]at uL;have iJ:Hid (ls.length=b.lines.length+1∧∀ y∈ls,y=⟨key,ws⟩∨y∈b.lines):=⟨by rw[gj,Pl.lO],fun y hy=>(Pl.js _ _ _ _).1 (by rw[gj]at hy;exact hy)⟩
    clear gj;have xa:=oJ.out.box.at_;have xl:=oJ.out.box.own.lt;have ya:=Ea.out.at_;have yl:=Ea.out.own.lt;go_upto_region 4 with(first|(refine wpList_load_mid rfl 32 _ rfl Q 0 rfl [.string b.kind,.string b.name,.slice ba b.lines.length bc] _ xa Try.underlying32 rfl (by kernel_rfl) ?_)|(refine wpList_load_mid rfl 53 _ rfl BX 0 rfl [.string key,.slice wa ws.length wc] _ ya Try.underlying53 rfl (by kernel_rfl) ?_)|(go_at_call 25;refine uL.out.mono ?_;rintro e W8 ⟨c,rfl,BZ,lW⟩;obtain⟨pa,pm,hc,BU⟩:=lN BZ;have kj:c=[.string b.kind,.string b.name,.slice pa ls.length pm]:=hc;clear hc;subst kj;have lS:=uh (oJ.out.ae lW);have yh:=uh (xR.out.ae lW);have x4:=uh BU;have bG:W8.there Q 0 (#[.string b.kind,.string b.name,.slice pa ls.length pm]:Array Value).size:=aR lS.out.box.own _ _ (by simp);clear BU BZ lW xa xl ya yl;have xl:=lS.out.box.own.lt)|(refine wpList_store_mid rfl 32 _ _ rfl Q 0 #[.string b.kind,.string b.name,.slice pa ls.length pm] rfl rfl bG (by kernel_rfl) (by simp[Value.oneCell']) ?_))
    obtain⟨W9,tn⟩:∃ W9,W9=W8.setCells Q 0 [.string b.kind,.string b.name,.slice pa ls.length pm]:=⟨_,rfl⟩
    have I1:Hid (DB W0 W9 R W0.heap.size Q L ⟨b.kind,b.name,ls⟩ (.slice pa ls.length pm)):=by show DB _ _ _ _ _ _ _ _;rw[tn];exact lS.out.put x4.out
    have g9:Hid (Rd W9 R v len q3):=by show Rd _ _ _ _ _;rw[tn];exact yh.out.mks (aN (S:=fun b=>b=Q) rfl _ _ _) (fun b e=>by have:b=Q:=e;have:=lS.out.ord;omega)
    first|rw[← tn]|(simp only[List.toList_toArray];rw[← tn])
    clear tn bG xl lS yh x4 uL;go_wp2;go_roundw
    case rel=>exact⟨k,q3,⟨b.kind,b.name,ls⟩,_,by omega,by go_num,I1.out,qI.out,by have:=DH.out;have:=iJ.out.1;show ls.length+k≤7;omega,⟨gR.out.1,gR.out.2.1,by have:=DH.out;have:=iJ.out.1;show ls.length≤7;omega,fun y hy=>by rcases iJ.out.2 y hy with rfl|h;exact Cd.out;exact gR.out.2.2.2 y h⟩,mN HQ.out yy.out,g9.out⟩
    case measure=>simp[intOf]
def tl (s:List Pl.Bl):Nat:=(s.map fun b=>b.lines.length).sum
structure SdB (n t:Nat) (s:List Pl.Bl):Prop where
 len:s.length≤n
 tot:tl s≤t
 all:∀ b∈s,b.kind.size≤20∧b.name.size≤20∧∀ x∈b.lines,LnB x
 per:∀ b∈s,b.lines.length≤7
theorem SdB.mono {n t n' t':Nat} {s:List Pl.Bl} (h:SdB n t s) (hn:n≤n') (ht:t≤t'):SdB n' t' s:=⟨Nat.le_trans h.len hn,Nat.le_trans h.tot ht,h.all,h.per⟩
theorem Fu (s:List Pl.Bl) (x:Pl.Bl):tl (Pl.fs s x)=tl s+x.lines.length:=by
 have e:=List.takeWhile_append_dropWhile (p:=fun y=>Pl.ahead y x) (l:=s);have h:tl s=tl (s.takeWhile fun y=>Pl.ahead y x)+tl (s.dropWhile fun y=>Pl.ahead y x):=by
  simp only[tl];rw[← List.sum_append,← List.map_append,e]
 rw[h];simp only[Pl.fs,Pl.putAt,tl,List.map_append,List.map_cons,List.sum_append,List.sum_cons];omega
theorem SdB.put {n t:Nat} {s:List Pl.Bl} (h:SdB n t s) (x:Pl.Bl) (k:Nat) (hl:x.lines.length≤k) (h7:x.lines.length≤7) (hx:x.kind.size≤20∧x.name.size≤20∧∀ y∈x.lines,LnB y):SdB (n+1) (t+k) (Pl.fs s x):=by
 refine⟨by rw[Pl.lJ];have:=h.len;omega,by rw[Fu];have:=h.tot;omega,fun b hb=> ?_,fun b hb=> ?_⟩
 ·rcases(Pl.pR _ _ _).1 hb with rfl|q
  ·exact hx
  ·exact h.all b q
 ·rcases(Pl.pR _ _ _).1 hb with rfl|q
  ·exact h7
  ·exact h.per b q
structure DS (W0 X:World) (R B0 Q L:Nat) (s:List Pl.Bl) (sv:Value):Prop where
 fr:Fr R W0 X
 res:aK X B0 25 [.slice none 0 0]
 box:aK X Q 25 [sv]
 dat:Dat (fun _=>False) 0 L X aV [aW s] [sv]
 ord:R<W0.heap.size∧W0.heap.size≤B0∧B0<Q∧Q<L∧L≤X.heap.size
theorem DS.step {W0 X X':World} {R B0 Q L:Nat} {s:List Pl.Bl} {bv:Value} {v v':Value} {n n' p p':Nat} (h:DS W0 X R B0 Q L s bv) (hF:Fr R X X') (h1:Rd X R v n p) (h2:Rd X' R v' n' p'):DS W0 X' R B0 Q L s bv:=by
 have ho:=h.ord;exact⟨h.fr.trans hF,h.res.fr hF (by omega),h.box.fr hF (by omega),h.dat.fr hF h1 h2 (by omega) (by omega),by have:=hF.bel.size;omega⟩
theorem DS.ae {W0 X X':World} {R B0 Q L:Nat} {s:List Pl.Bl} {bv:Value} (h:DS W0 X R B0 Q L s bv) (hb:Bel X X'):DS W0 X' R B0 Q L s bv:=by
 have ho:=h.ord;exact⟨h.fr.trans (Fr.bh hb (by omega)),h.res.ae hb,h.box.ae hb,h.dat.ae hb,by have:=hb.size;omega⟩
theorem DS.put {W0 X:World} {R B0 Q L:Nat} {s s':List Pl.Bl} {bv v':Value} (h:DS W0 X R B0 Q L s bv) (hd:Dat (fun _=>False) 0 L X aV [aW s'] [v']):DS W0 (X.setCells Q 0 [v']) R B0 Q L s' v':=by
 have ho:=h.ord;have m:Marks (fun b=>b=Q) X (X.setCells Q 0 [v']):=aN (S:=fun b=>b=Q) rfl _ _ _;have t:X.there Q 0 [v'].length:=aR h.box.own _ _ (by simp);exact⟨h.fr.mks m (fun b e=>by have:b=Q:=e;omega) ho.1,h.res.mks m (by omega),⟨dE _ _ _ h.box.own,World.rangeAt_setCells_same _ _ _ _ t⟩,hd.aY m (fun b e=>by have:b=Q:=e;omega),by have:=m.size;omega⟩
def gp (lo:Nat) (W:World) (sh:List Sh) (A:List Dt) (c:List Value):Prop:=∃ F,Rep W false sh F A c∧F.Nodup∧∀ b∈F,lo≤b
theorem gp.aY {lo:Nat} {T:Nat→Prop} {W W':World} {sh:List Sh} {A:List Dt} {c:List Value} (h:gp lo W sh A c) (hb:Marks T W W') (hT:∀ b,T b→b<lo):gp lo W' sh A c:=by
 obtain⟨F,r,n,f⟩:=h;exact⟨F,r.aY hb fun b fE e=>by have:=hT b e;have:=f b fE;omega,n,f⟩
theorem gp.ae {lo:Nat} {W W':World} {sh:List Sh} {A:List Dt} {c:List Value} (h:gp lo W sh A c) (hb:Bel W W'):gp lo W' sh A c:=by
 obtain⟨F,r,n,f⟩:=h;exact⟨F,r.ae hb,n,f⟩
theorem gp.lower {lo lo':Nat} {W:World} {sh:List Sh} {A:List Dt} {c:List Value} (h:gp lo W sh A c) (hl:lo'≤lo):gp lo' W sh A c:=by
 obtain⟨F,r,n,f⟩:=h;exact⟨F,r,n,fun b hb=>Nat.le_trans hl (f b hb)⟩
theorem gp.raw {lo:Nat} {W:World} {sh:List Sh} {A:List Dt} {c:List Value} (h:gp lo W sh A c):Raw W sh A c:=by
 obtain⟨F,r,_⟩:=h;exact r.raw
def BS (p k q:Nat):Prop:=q+4000000*k≤p+30000000
theorem Ar {p k q:Nat} (h:BS p k q):q≤p+30000000:=by unfold BS at h;omega
theorem vp {p k q q':Nat} (h:BS p (k+1) q) (h':q'≤q+3000000):BS p k q':=by unfold BS at h ⊢;omega
theorem mc (f:Pl.Bl→Nat):∀ (s:List Pl.Bl) (b:Pl.Bl),b∈s→f b≤(s.map f).sum
 |x::s,b,h=>by
  rw[List.map_cons,List.sum_cons];rcases List.mem_cons.1 h with rfl|q
  ·omega
  ·have:=mc f s b q;omega
theorem qd {s:List Pl.Bl} {b:Pl.Bl} (h:b∈s):b.lines.length≤tl s:=mc (fun b=>b.lines.length) s b h
def zH (L:Nat) (i:Nat) (sa:Option Addr) (sc:Nat) (s:List Pl.Bl) (ls:List Pl.Bl) (dl:ByteArray) (kb:ByteArray) (nb:ByteArray):Nat→Value→World→Prop
 |0,vv,_=>vv=.agg #[.slice sa s.length sc]
 |1,vv,_=>vv=.int .i64 (i:Int)
 |2,vv,_=>vv=.string dl
 |3,vv,_=>vv=.string nb
 |4,vv,_=>vv=.agg #[.string kb,.string nb,.slice none 0 0]
 |5,vv,W=>∃ a m,vv=.agg #[.slice a ls.length m]∧Dat (fun _=>False) 0 L W aV [aW ls] [.slice a ls.length m]
 |_,_,_=>True
theorem ud (L:Nat) (i:Nat) (sa:Option Addr) (sc:Nat) (s:List Pl.Bl) (ls:List Pl.Bl) (dl:ByteArray) (kb:ByteArray) (nb:ByteArray):∀ jj vv W W',Bel W W'→zH L i sa sc s ls dl kb nb jj vv W→zH L i sa sc s ls dl kb nb jj vv W':=by
 intro jj vv W W' hb h;match jj with
 |0=>exact h
 |1=>exact h
 |2=>exact h
 |3=>exact h
 |4=>exact h
 |5=>
  obtain⟨a,m,e,h1⟩:=h;exact⟨a,m,e,h1.ae hb⟩
 |n+6=>exact trivial
theorem wE (R:Nat) (v:Value) (len p:Nat) (W0:World) (h:Rd W0 R v len p) (hp:p≤300000000000):
  Calls Try.prog 42 #[.pointer (some ⟨R,0,none⟩)] W0 fun e W'=>(∃ s sv,e=.returned (.agg #[sv])∧gp W0.heap.size W' aV [aW s] [sv]∧SdB 66 40 s)∧Fr R W0 W'∧∃ q,q≤p+40000000∧Rd W' R v len q:=by
 have km:=uh h;clear h;obtain⟨wa,aS⟩:∃ wa,wa=(W0.alloc (.cells #[.slice none 0 0] 25)).alloc (.cells #[.slice none 0 0] 25):=⟨_,rfl⟩
 have gh:Bel W0 wa:=by rw[aS];exact ah (ah zR _) _
 obtain⟨Q,hQ⟩:∃ Q,Q=W0.heap.size+1:=⟨_,rfl⟩
 obtain⟨L,hL⟩:∃ L,L=W0.heap.size+2:=⟨_,rfl⟩
 have HR:=uh (km.out.ae gh);have EI:Hid (DS W0 wa R W0.heap.size Q L [] (.slice none 0 0)):=by
  show DS _ _ _ _ _ _ _ _;have hz:wa.heap.size=W0.heap.size+2:=by rw[aS];simp
  refine⟨Fr.bh gh km.out.own.lt, ?_, ?_,qe,by have:=km.out.own.lt;omega⟩
  ·rw[aS];exact(aK.new W0 [.slice none 0 0] 25 _ rfl).ae (ah zR _)
  ·rw[aS,hQ];exact aK.new (W0.alloc (.cells #[.slice none 0 0] 25)) [.slice none 0 0] 25 _ (by simp)
 clear gh km hL;have HP:=uh (bp R v len p 6 wa HR.out (by omega) (by omega));go_enter Try.func42,Try.ntmps42
 go_upto_region 2 with fail
 rw[← aS,← hQ];clear aS hQ;go_wp2_with fail
 refine HP.out.mono ?_;rintro e W2 ⟨⟨rm,rfl,ia⟩,eM,eL⟩;obtain⟨n,rfl,hn⟩:=ia.nat;have hn6:n<6:=by have:=hn (by omega);omega
 have BN:=uh (EI.out.step eM HR.out eL);have eO:=uh eL;have AW:Hid (BS p n (p+1)):=by show BS _ _ _;unfold BS;omega
 clear ia hn eM eL HP EI HR;go_wp2;go_loopw [4] (fun vi wr=>∃ (k q:Nat) (s:List Pl.Bl) (sv:Value),k≤5∧vi=.int .i64 k∧DS W0 wr R W0.heap.size Q L s sv∧s.length+k≤5∧SdB 5 (7*s.length) s∧BS p k q∧Rd wr R v len q) (fun vi _=>(intOf vi).toNat)
 case atStart=>exact⟨n,p+1,[],_,by omega,rfl,BN.out,by simp;omega,⟨by simp,by simp[tl],by simp,by simp⟩,AW.out,eO.out⟩
 case round=>
  obtain⟨k,q,s,sv,hk7,rfl,hD,AR,hB,hq,hR⟩:=hrel;obtain⟨sa,sc,J9⟩:=hD.dat.raw.aP;subst J9;have HD:=uh hD;have BE:=uh AR;have oZ:=uh hB;have HQ:=uh hq;have ez:=uh hR;clear hD AR hB hq hR BN eO AW;by_cases k0:k=0
  ·subst k0;have GS:Hid (SdB 5 35 s):=oZ.out.mono (by omega) (by have:=oZ.out.len;omega);clear oZ;have HP:=uh (bp R v len q 24 wr ez.out (by have:=Ar HQ.out;omega) (by omega));go_wp2_with fail
   refine HP.out.mono ?_;rintro e W2 ⟨⟨rm,rfl,ia⟩,eM,eL⟩;obtain⟨m,rfl,hm⟩:=ia.nat;replace HD:=uh (HD.out.step eM ez.out eL)
   replace ez:=uh eL
   obtain⟨q0,Ku⟩:∃ q0,q0=q+1:=⟨_,rfl⟩
   rw[← Ku]at ez;have Kt:Hid (q0≤p+30000010):=by show _≤_;have:=Ar HQ.out;omega
   clear ia hm eM eL HP Ku HQ;by_cases m0:m=0
   rotate_left
   ·have d0:((m:Int)==0)=false:=by simp;omega
    have oZ:=GS;have Iz:=uh (eH s (.slice sa s.length sc) W2 HD.out.dat.raw (by have:=oZ.out.len;omega) (fun b hb=>⟨by have:=qd hb;have:=oZ.out.tot;omega,fun x hx=>by have:=((oZ.out.all b hb).2.2 x hx).2.1;omega⟩));have xa:=HD.out.box.at_;have xl:=HD.out.box.own.lt;go_wp2_with (refine wpList_load_mid rfl 25 _ rfl Q 0 rfl [.slice sa s.length sc] _ xa Try.underlying25 rfl (by kernel_rfl) ?_)
    refine Iz.out.mono ?_;rintro e W8 ⟨c,F,rfl,hr,kY,eN,lW⟩;obtain⟨F2,v2,eM,hc,r2⟩:=du hr;subst hc;obtain⟨ca,cm,fK⟩:=r2.raw.aP;subst fK;have lS:=uh (HD.out.ae lW);have yh:=uh (ez.out.ae lW);have x4:Hid (gp L W8 aV [aW s] [.slice ca s.length cm]):=⟨F2,r2,by rw[eM,List.append_nil]at kY;exact kY,fun b hb=>by have:=eN b (by rw[eM];simp[hb]);have:=HD.out.ord;omega⟩
    have bG:W8.there W0.heap.size 0 (#[.slice ca s.length cm]:Array Value).size:=aR lS.out.res.own _ _ (by simp);clear hr kY eN lW r2 eM xa xl;have xl:=lS.out.res.own.lt;go_wp2_with (refine wpList_store_mid rfl 25 _ _ rfl W0.heap.size 0 #[.slice ca s.length cm] rfl rfl bG (by kernel_rfl) (by simp[Value.oneCell']) ?_)
    obtain⟨we,bj⟩:∃ we,we=W8.setCells W0.heap.size 0 [.slice ca s.length cm]:=⟨_,rfl⟩
    have dv:we.rangeAt W0.heap.size 0 [.slice ca s.length cm]:=by rw[bj];exact World.rangeAt_setCells_same _ _ _ _ bG
    have hm:Marks (fun b=>b=W0.heap.size) W8 we:=by rw[bj];exact aN (S:=fun b=>b=W0.heap.size) rfl _ _ _
    have ho:=lS.out.ord;have cH:Hid (gp W0.heap.size we aV [aW s] [.slice ca s.length cm]∧Fr R W0 we∧Rd we R v len q0):=⟨gp.lower (x4.out.aY hm (fun b e=>by have:b=W0.heap.size:=e;omega)) (by omega),lS.out.fr.mks hm (fun b e=>by have:b=W0.heap.size:=e;omega) ho.1,yh.out.mks hm (fun b e=>by have:b=W0.heap.size:=e;omega)⟩
    clear hm ho
    first|rw[← bj]|(simp only[List.toList_toArray];rw[← bj])
    try simp only[Act.put]
    refine bodyPost_ret (v:=.agg #[.slice ca s.length cm]) (by simp[results,Try.results42,asAddr,run_loadVar_mid (P:=Try.prog) _ _ _ 25 [.slice ca s.length cm] _ dv Try.underlying25 rfl (by kernel_rfl)]) rfl ?_;exact⟨⟨s,_,rfl,cH.out.1,oZ.out.mono (by omega) (by omega)⟩,cH.out.2.1,q0,by have:=Kt.out;omega,cH.out.2.2⟩
   subst m0;have HP:=uh (bp R v len q0 2 W2 ez.out (by have:=Kt.out;omega) (by omega));go_wp2_with fail
   refine HP.out.mono ?_;rintro e W3 ⟨⟨rm,rfl,ia⟩,iK,jb⟩;obtain⟨m2,rfl,mS⟩:=ia.nat;have yA:m2<2:=by have:=mS (by omega);omega
   replace HD:=uh (HD.out.step iK ez.out jb)
   replace ez:=uh jb
   obtain⟨q,hq⟩:∃ q,q=q0+1:=⟨_,rfl⟩
   rw[← hq]at ez;have HQ:Hid (q≤p+30000020):=by show _≤_;have:=Kt.out;omega
   obtain⟨N,hN⟩:∃ N:Nat,N=60 - m2:=⟨_,rfl⟩
   have Gv:IntKind.i64.wrap ((60:Int) - (m2:Int))=(N:Int):=by rw[IntWalk.i64_in _ ⟨by omega,by omega⟩];omega
   have hN60:N≤60:=by omega
   have EI:=HD;have km:=ez;clear ia mS iK jb HP hq Kt HD ez hN;obtain⟨n0,Gs⟩:∃ n0,n0=s.length:=⟨_,rfl⟩
   go_upto_region 10 with fail
   clear Gv yA;go_wp2;go_loopw [7] (fun vi wr=>∃ (i:Nat) (s':List Pl.Bl) (sv:Value),i≤60∧vi=.int .i64 i∧DS W0 wr R W0.heap.size Q L s' sv∧s'.length=n0+i∧SdB (5+i) 35 s'∧Rd wr R v len q) (fun vi _=>60 - (intOf vi).toNat)
   case atStart=>exact⟨0,s,_,by omega,rfl,EI.out,by omega,GS.out,km.out⟩
   case round=>
    obtain⟨i,s',sv,hi60,rfl,hD,AR,hB,hR⟩:=hrel;clear EI GS BE km Gs;obtain⟨s,hs⟩:∃ s,s=s':=⟨_,rfl⟩
    subst hs;obtain⟨sa,sc,J9⟩:=hD.dat.raw.aP;subst J9;have HD:=uh hD;have BE:=uh AR;have oZ:=uh hB;have ez:=uh hR;clear hD AR hB hR;have x0:=HD.out.box.get 0 _ rfl;have xl:=HD.out.box.own.lt;by_cases bN:s.length<N
    rotate_left
    ·have BR:¬ ((s.length:Int)<(N:Int)):=by omega
     go_upto_region 14 with fail
     clear x0 xl BR bN;have Iz:=uh (eH s (.slice sa s.length sc) wr HD.out.dat.raw (by have:=oZ.out.len;omega) (fun b hb=>⟨by have:=qd hb;have:=oZ.out.tot;omega,fun x hx=>by have:=((oZ.out.all b hb).2.2 x hx).2.1;omega⟩));have xa:=HD.out.box.at_;have xl:=HD.out.box.own.lt;go_wp2_with (refine wpList_load_mid rfl 25 _ rfl Q 0 rfl [.slice sa s.length sc] _ xa Try.underlying25 rfl (by kernel_rfl) ?_)
     refine Iz.out.mono ?_;rintro e W8 ⟨c,F,rfl,hr,kY,eN,lW⟩;obtain⟨F2,v2,eM,hc,r2⟩:=du hr;subst hc;obtain⟨ca,cm,fK⟩:=r2.raw.aP;subst fK;have lS:=uh (HD.out.ae lW);have yh:=uh (ez.out.ae lW);have x4:Hid (gp L W8 aV [aW s] [.slice ca s.length cm]):=⟨F2,r2,by rw[eM,List.append_nil]at kY;exact kY,fun b hb=>by have:=eN b (by rw[eM];simp[hb]);have:=HD.out.ord;omega⟩
     have bG:W8.there W0.heap.size 0 (#[.slice ca s.length cm]:Array Value).size:=aR lS.out.res.own _ _ (by simp);clear hr kY eN lW r2 eM xa xl;have xl:=lS.out.res.own.lt;go_wp2_with (refine wpList_store_mid rfl 25 _ _ rfl W0.heap.size 0 #[.slice ca s.length cm] rfl rfl bG (by kernel_rfl) (by simp[Value.oneCell']) ?_)
     obtain⟨we,bj⟩:∃ we,we=W8.setCells W0.heap.size 0 [.slice ca s.length cm]:=⟨_,rfl⟩
     have dv:we.rangeAt W0.heap.size 0 [.slice ca s.length cm]:=by rw[bj];exact World.rangeAt_setCells_same _ _ _ _ bG
     have hm:Marks (fun b=>b=W0.heap.size) W8 we:=by rw[bj];exact aN (S:=fun b=>b=W0.heap.size) rfl _ _ _
     have ho:=lS.out.ord;have cH:Hid (gp W0.heap.size we aV [aW s] [.slice ca s.length cm]∧Fr R W0 we∧Rd we R v len q):=⟨gp.lower (x4.out.aY hm (fun b e=>by have:b=W0.heap.size:=e;omega)) (by omega),lS.out.fr.mks hm (fun b e=>by have:b=W0.heap.size:=e;omega) ho.1,yh.out.mks hm (fun b e=>by have:b=W0.heap.size:=e;omega)⟩
     clear hm ho
     first|rw[← bj]|(simp only[List.toList_toArray];rw[← bj])
     try simp only[Act.put]
     refine bodyPost_ret (v:=.agg #[.slice ca s.length cm]) (by simp[results,Try.results42,asAddr,run_loadVar_mid (P:=Try.prog) _ _ _ 25 [.slice ca s.length cm] _ dv Try.underlying25 rfl (by kernel_rfl)]) rfl ?_;exact⟨⟨s,_,rfl,cH.out.1,oZ.out.mono (by omega) (by omega)⟩,cH.out.2.1,q,by have:=HQ.out;omega,cH.out.2.2⟩
    have iN:((s.length:Int)<(N:Int)):=by omega
    have gf:i<60:=by have:=BE.out;omega
    obtain⟨dl,xJ⟩:∃ dl:ByteArray,dl=⟨(Lib.decDigits i).toArray⟩:=⟨_,rfl⟩
    have HCD:Hid (∀ X,Calls Try.prog 71 #[.int .i64 (i:Int)] X fun e w'=>e=.returned (.string dl)∧Bel X w'):=fun X=>by rw[xJ];exact zW i (by omega) X
    have hdz:dl.size≤2:=by
     rw[xJ];have:=Pl.qi 2 i (by omega) (by omega);show (Lib.decDigits i).toArray.size≤2;rw[List.size_toArray];omega
    obtain⟨nb,Ci⟩:∃ nb:ByteArray,nb=({data:=#[110]}++dl):=⟨_,rfl⟩
    obtain⟨kb,Ky⟩:∃ kb:ByteArray,kb={data:=#[98,101,114,116,104]}:=⟨_,rfl⟩
    have HNB:=uh Ci;have qI:=uh Ky;have GJ:nb.size≤20:=by
     rw[Ci,ByteArray.size_append];show 1+dl.size≤20;omega
    have MX:kb.size≤20:=by rw[Ky];decide
    clear Ci Ky;obtain⟨ls,gj⟩:∃ ls,ls=Pl.fs s ⟨kb,nb,[]⟩:=⟨_,rfl⟩
    have Kv:Hid (∀ X,Bel wr X→Calls Try.prog 70 #[.agg #[.slice sa s.length sc],.agg #[.string kb,.string nb,.slice none 0 0]] X (C5 (fun _=>False) 0 L bX [aW ls] X)):=fun X hX=>by
     rw[gj];exact kV s ⟨kb,nb,[]⟩ (.slice sa s.length sc) (.slice none 0 0) X (HD.out.dat.ae hX) qe (by have:=oZ.out.len;omega) (by have:=HD.out.ord;have:=hX.size;omega)
    have iJ:Hid (ls.length=n0+(i+1)∧SdB (5+(i+1)) 35 ls):=by
     refine⟨by rw[gj,Pl.lJ,BE.out];omega, ?_⟩;rw[gj];exact(oZ.out.put ⟨kb,nb,[]⟩ 0 zE zN ⟨MX,GJ,by simp⟩).mono (by omega) (by omega)
    clear GJ MX;clear gj xJ;go_upto_region 13 with fail
    clear x0 xl iN bN;refine RY.ly wr zR (zH L i sa sc s ls dl kb nb) (ud _ _ _ _ _ _ _ _ _) (fun vals W'=>∃ a m,DS W0 W' R W0.heap.size Q L ls (.slice a ls.length m)∧Rd W' R v len q) 6 12 (by kernel_rfl) (by kernel_rfl) (by kernel_rfl) (by kernel_rfl) rfl [5] (by kernel_rfl) (by kernel_rfl) _ rfl rfl (by kernel_rfl) ?_ ?_ ?_
    ·intro ii o' ho Kr a X hX hk hd;have zQ:=HD.out.box.ae hX;have zQl:=zQ.own.lt;match ii,ho with
     |0,ho=>
      injection ho with ho;subst ho
      have v3:a.eval (.tmp 3)=.pointer (some ⟨Q,0,none⟩):=(hk 3 (by kernel_rfl)).trans rfl;exact Or.inl ⟨_,X,aq 25 _ rfl Q 0 v3 [.slice sa s.length sc] _ zQ.at_ Try.underlying25 rfl (by kernel_rfl),zR,rfl⟩
     |1,ho=>
      injection ho with ho;subst ho
      have e7:a.tmps[7]?.getD undef=.int .i64 (i:Int):=(RY.af a 7).trans ((hk 7 (by kernel_rfl)).trans rfl);exact Or.inl ⟨.int .i64 (i:Int),X,by simp[execOp,go_sem,e7],zR,rfl⟩
     |2,ho=>
      injection ho with ho;subst ho
      have e41:a.tmps[41]?.getD undef=.int .i64 (i:Int):=(RY.af a 41).trans (hd 1 _ 41 rfl rfl ⟨⟨1,.data⟩,by simp,rfl,rfl⟩ (by decide));refine Or.inr ⟨71,#[.int .i64 (i:Int)],by simp[go_sem,e41],(HCD.out X).mono ?_⟩;rintro e W' ⟨rfl,hb⟩;exact⟨_,rfl,hb,rfl⟩
     |3,ho=>
      injection ho with ho;subst ho
      have e42:a.tmps[42]?.getD undef=.string dl:=(RY.af a 42).trans (hd 2 _ 42 rfl rfl ⟨⟨2,.data⟩,by simp,rfl,rfl⟩ (by decide));refine Or.inl ⟨.string nb,X, ?_,zR,rfl⟩;rw[HNB.out];simp[execOp,go_sem,e42];try omega
     |4,ho=>
      injection ho with ho;subst ho
      have e43:a.tmps[43]?.getD undef=.string nb:=(RY.af a 43).trans (hd 3 _ 43 rfl rfl ⟨⟨3,.data⟩,by simp,rfl,rfl⟩ (by decide));refine Or.inl ⟨.agg #[.string kb,.string nb,.slice none 0 0],X, ?_,zR,rfl⟩;rw[qI.out];simp[execOp,go_sem,e43]
     |5,ho=>
      injection ho with ho;subst ho
      have e40:a.tmps[40]?.getD undef=.agg #[.slice sa s.length sc]:=(RY.af a 40).trans (hd 0 _ 40 rfl rfl ⟨⟨0,.data⟩,by simp,rfl,rfl⟩ (by decide));have e44:a.tmps[44]?.getD undef=.agg #[.string kb,.string nb,.slice none 0 0]:=(RY.af a 44).trans (hd 4 _ 44 rfl rfl ⟨⟨4,.data⟩,by simp,rfl,rfl⟩ (by decide));refine Or.inr ⟨70,#[.agg #[.slice sa s.length sc],.agg #[.string kb,.string nb,.slice none 0 0]],by simp[go_sem,e40,e44],(Kv.out X hX).mono ?_⟩;rintro e W' ⟨c,rfl,BZ,hb⟩;obtain⟨pa,pm,hc,BU⟩:=pJ BZ;subst hc;exact⟨_,rfl,hb,pa,pm,rfl,BU⟩
     |n+6,ho=>omega
    ·intro a X vals hX hk hV hd;obtain⟨a1,m1,e45,hD1⟩:=hV 5 (by decide);have f45:=(hd 5 _ 45 rfl rfl ⟨⟨5,.data⟩,by simp,rfl,rfl⟩ (by decide)).trans e45;have f3:a.eval (.tmp 3)=.pointer (some ⟨Q,0,none⟩):=(hk 3 (by kernel_rfl)).trans rfl;have J5:=HD.out.ae hX;have bG:X.there Q 0 (#[.slice a1 ls.length m1]:Array Value).size:=aR J5.box.own _ _ (by simp);have ho:=J5.ord;exact⟨X.setCells Q 0 [.slice a1 ls.length m1],RY.cn _ _ _ rfl f3 f45 bG (by kernel_rfl) (by simp[Value.oneCell']),a1,m1,J5.put hD1,(ez.out.ae hX).mks (aN (S:=fun b=>b=Q) rfl _ _ _) (fun b e=>by have:b=Q:=e;omega)⟩
    ·intro vals vs X hK bd;simp only[RY.aE,Act.put,List.setIfInBounds_toArray,List.set_cons_zero,List.set_cons_succ];generalize vs 40=s40;generalize vs 41=s41;generalize vs 42=s42;generalize vs 43=s43;generalize vs 44=s44;generalize vs 45=s45;clear bd;obtain⟨a,m,hD3,jb⟩:=hK;have vK:=uh hD3;have B8:=uh jb;clear hD3 jb HD ez Kv HCD;go_wp2;go_roundw
     case rel=>exact⟨i+1,ls,_,by omega,by go_num,vK.out,iJ.out.1,iJ.out.2,B8.out⟩
     case measure=>simp[intOf];omega
  obtain⟨k,rfl⟩:∃ k',k=k'+1:=⟨k - 1,by omega⟩
  have dd:(0:Int)<((k+1:Nat):Int):=by omega
  have HL:=uh (wg R v len q wr ez.out (by have:=Ar HQ.out;omega));go_wp2_with fail
  refine HL.out.mono ?_;rintro e W3 ⟨⟨b,lv,rfl,Hm,eV⟩,iK,q3,Ey,jb⟩;obtain⟨ba,bc,Hv⟩:=Hm.raw.aP;subst Hv;obtain⟨W4,oW⟩:∃ W4,W4=W3.alloc (.cells #[.string b.kind,.string b.name,.slice ba b.lines.length bc] 32):=⟨_,rfl⟩
  obtain⟨BX,AT⟩:∃ BX,BX=W3.heap.size:=⟨_,rfl⟩
  have qy:Bel W3 W4:=by rw[oW];exact ah zR _
  have qU:Hid (aK W4 BX 32 [.string b.kind,.string b.name,.slice ba b.lines.length bc]):=by show aK _ _ _ _;rw[oW,AT];exact aK.new _ _ _ _ rfl
  have BI:Hid (Dat (fun _=>False) 0 L W4 aJ [aU b.lines] [.slice ba b.lines.length bc]):=Dat.ae (Dat.lower Hm (by have:=HD.out.ord;omega)) qy;have tp:=uh ((HD.out.step iK ez.out jb).ae qy);have mv:=uh (jb.ae qy);have gR:=uh eV;have yy:=uh Ey;go_upto_region 6 with fail
  rw[← oW,← AT];clear oW AT qy Hm eV iK Ey jb HL HD ez dd;have xa:=tp.out.box.at_;have xl:=tp.out.box.own.lt;have y0:=qU.out.get 0 _ rfl;have y1:=qU.out.get 1 _ rfl;have yl:=qU.out.own.lt;have HK:=uh (rW s (.slice sa s.length sc) b.kind b.name W4 tp.out.dat.raw);obtain⟨fi,hfi⟩:∃ fi:Int,fi=Pl.ixI (Pl.dJ s b.kind b.name):=⟨_,rfl⟩
  rw[← hfi]at HK;clear hfi;go_wp2_with (refine wpList_load_mid rfl 25 _ rfl Q 0 rfl [.slice sa s.length sc] _ xa Try.underlying25 rfl (by kernel_rfl) ?_)
  refine HK.out.mono ?_;rintro e W6 ⟨rfl,mH⟩;rcases hf0:decide (fi<0) with _|_
  ·have oJ:=uh (tp.out.ae mH);have xR:=uh (mv.out.ae mH);clear mH xa xl y0 y1 yl HK tp qU BI mv;go_wp2;go_roundw
   case rel=>exact⟨k,q3,s,_,by omega,by go_num,oJ.out,by have:=BE.out;omega,oZ.out,vp HQ.out yy.out,xR.out⟩
   case measure=>simp[intOf]
  have oJ:=uh (tp.out.ae mH);have Ea:=uh (qU.out.ae mH);have HU:=uh (BI.out.ae mH);have xR:=uh (mv.out.ae mH);clear mH xa xl y0 y1 yl HK tp qU BI mv;have uL:=uh (kV (S:=fun _=>False) (B:=0) (lo:=L) s b (.slice sa s.length sc) (.slice ba b.lines.length bc) W6 oJ.out.dat HU.out (by have:=BE.out;omega) (by have:=oJ.out.ord;omega));obtain⟨ls,gj⟩:∃ ls,ls=Pl.fs s b:=⟨_,rfl⟩
  rw[← gj]at uL;have iJ:Hid (ls.length=s.length+1∧SdB 5 (7*ls.length) ls):=by
   have e:ls.length=s.length+1:=by rw[gj,Pl.lJ]
   refine⟨e, ?_⟩;have:=oZ.out.put b 7 gR.out.2.2.1 gR.out.2.2.1 ⟨gR.out.1,gR.out.2.1,gR.out.2.2.2⟩;rw[← gj]at this;exact⟨by have:=BE.out;omega,by have:=this.tot;omega,this.all,this.per⟩
  clear gj;have xa:=oJ.out.box.at_;have xl:=oJ.out.box.own.lt;have ya:=Ea.out.at_;have yl:=Ea.out.own.lt;go_upto_region 4 with(first|(refine wpList_load_mid rfl 25 _ rfl Q 0 rfl [.slice sa s.length sc] _ xa Try.underlying25 rfl (by kernel_rfl) ?_)|(refine wpList_load_mid rfl 32 _ rfl BX 0 rfl [.string b.kind,.string b.name,.slice ba b.lines.length bc] _ ya Try.underlying32 rfl (by kernel_rfl) ?_)|(go_at_call 70;refine uL.out.mono ?_;rintro e W8 ⟨c,rfl,BZ,lW⟩;obtain⟨pa,pm,hc,BU⟩:=pJ BZ;subst hc;have lS:=uh (oJ.out.ae lW);have yh:=uh (xR.out.ae lW);have x4:=uh BU;have bG:W8.there Q 0 (#[.slice pa ls.length pm]:Array Value).size:=aR lS.out.box.own _ _ (by simp);clear BU BZ lW xa xl ya yl;have xl:=lS.out.box.own.lt)|(refine wpList_store_mid rfl 25 _ _ rfl Q 0 #[.slice pa ls.length pm] rfl rfl bG (by kernel_rfl) (by simp[Value.oneCell']) ?_))
  obtain⟨W9,tn⟩:∃ W9,W9=W8.setCells Q 0 [.slice pa ls.length pm]:=⟨_,rfl⟩
  have I1:Hid (DS W0 W9 R W0.heap.size Q L ls (.slice pa ls.length pm)):=by show DS _ _ _ _ _ _ _ _;rw[tn];exact lS.out.put x4.out
  have g9:Hid (Rd W9 R v len q3):=by show Rd _ _ _ _ _;rw[tn];exact yh.out.mks (aN (S:=fun b=>b=Q) rfl _ _ _) (fun b e=>by have:b=Q:=e;have:=lS.out.ord;omega)
  first|rw[← tn]|(simp only[List.toList_toArray];rw[← tn])
  clear tn bG xl lS yh x4 uL;go_wp2;go_roundw
  case rel=>exact⟨k,q3,ls,_,by omega,by go_num,I1.out,by have:=BE.out;have:=iJ.out.1;omega,iJ.out.2,vp HQ.out yy.out,g9.out⟩
  case measure=>simp[intOf]
theorem kC {P:Program} (t ty e:TypeId) (size bytes:Nat) (z:Value) (ht:P.underlying t=some (.slice e)) (hinf:(P.info? e).map (fun i=>(i.zero,i.size,i.bytes))=some (some z,size,bytes)) (hzs:z.cells.size=size) (hb:bytes≤1000)
  (sh:List Sh) (hk:sh.length=size) (W:World) {F:List Nat} {n:Nat} {es:List Dt} {v:Value} (h:Rep W false [.row e sh] F [.row n es] [v]) (kY:∀ p G,F=p::G→p ∉ G) (hn:n≤4194304) {F':List Nat} {d:List Dt} {c':List Value} (ad:Addr) (hd:Rep W false sh F' d c') (hdj:∀ p G,F=p::G→p ∉ F')
  (j8:∀ j u,c'[j]? =some u→W.cell? (ad.add j)=some u):
  ∃ v' W' F'' row,(Builtin.append_ #[t,t] ty #[v,.slice (some ad) 1 1]).run P W=.ok v' W'∧Rep W' false [.row e sh] F'' [.row (n+1) (es++d)] [v']∧(∀ p G,F''=p::G→p ∉ G∧((∃ G',F=p::G')∨p=W.heap.size))∧(∀ b∈F'',b∈F∨b∈F'∨b=W.heap.size)∧W.grownBy W' row∧(∀ b,row=some b→∃ G,F=b::G)∧Marks (fun b=>row=some b) W W':=by
 obtain⟨i,hi,ei⟩:=Option.map_eq_some_iff.1 hinf;simp only[Prod.mk.injEq]at ei;obtain⟨hz,hs,fQ⟩:=ei;have hc:c'.length=1*i.size:=by rw[hd.len,hk,hs,Nat.one_mul]
 have Ci:(n+1)*bytes≤4194305*1000:=Nat.mul_le_mul (by omega) hb;have Jv:Src P i.size t (.slice (some ad) 1 1) 1 c' W:=Src.ofSlice W ht ad 1 1 c' hc j8 (fun u hu=>hd.raw.one u hu);have bN:=hd.lt;have grow:∀ (base:Option Addr) (cap:Nat) (vs:List Value) (G:List Nat),cap<n+1→vs.length=n*i.size→(Builtin.firstCells i.size n (.slice base n cap)).run P W.drew=.ok vs.toArray W.drew→Rep W false (bP n sh) G es vs→(∀ b∈G,b∈F)→v=.slice base n cap→
   ∃ v' W' F'' row,(Builtin.append_ #[t,t] ty #[v,.slice (some ad) 1 1]).run P W=.ok v' W'∧Rep W' false [.row e sh] F'' [.row (n+1) (es++d)] [v']∧(∀ p G,F''=p::G→p ∉ G∧((∃ G',F=p::G')∨p=W.heap.size))∧(∀ b∈F'',b∈F∨b∈F'∨b=W.heap.size)∧W.grownBy W' row∧(∀ b,row=some b→∃ G,F=b::G)∧Marks (fun b=>row=some b) W W':=by
  intro base cap vs G GK pd Mi hR pX hv;subst hv;have hr:=run_append_grow_src (P:=P) W t t ty e i z ht hi hz base n cap vs Mi (.slice (some ad) 1 1) 1 c' Jv GK (by omega) (growslice_fits (by omega) (by rw[fQ];omega));have Mq:=grownCap_ge W (n+1) cap e;have hle:=grownCap_le_maxLen W (n+1) cap e (by unfold maxLen;omega);have gM:Bel W (W.drew.alloc (.cells ((vs++c').toArray++Builtin.zeroCells z.cells (grownCap W (n+1) cap e - (n+1))) e)):=ah (Below.drew zR) _;have jg:(vs++c').length=(n+1)*i.size:=by rw[List.length_append,pd,hc,← Nat.add_mul]
  refine⟨_,_,W.heap.size::((G++F')++[]),none,hr, ?_, ?_, ?_,⟨gM.os,gM.tape,gM.output,gM.size,fun k hk _=>gM.block k hk⟩,(fun b hb=>by cases hb),Marks.bh _ gM⟩
  ·refine Rep.row e sh W.heap.size 0 (n+1) (grownCap W (n+1) cap e) e (grownCap W (n+1) cap e*sh.length) (vs++c') (es++d) (G++F') ⟨_,heap_alloc_new W.drew _, ?_⟩ (by omega) (by simp) ⟨by unfold maxLen;omega,Mq⟩ ?_ ?_ .nil
   ·rw[Array.size_append,size_zeroCells,hzs,hk,List.size_toArray,jg,hs,← Nat.add_mul];congr 1;omega
   ·intro j x hx;rw[Nat.zero_add];refine(World.cell?_alloc_at _ _ _ _ rfl).trans ?_;have hj:j<(vs++c').length:=(List.getElem?_eq_some_iff.1 hx).1;rw[Array.getElem?_append_left (by simpa using hj)];simpa using hx
   ·rw[dx];exact(hR.ae gM).app (hd.ae gM)
  ·intro p G1 LG;injection LG with e1 e2
   subst e1;subst e2;refine⟨fun hb=> ?_,Or.inr rfl⟩;rw[List.append_nil]at hb;rcases List.mem_append.1 hb with hb|hb
   ·have:=hR.lt _ hb;omega
   ·have:=bN _ hb;omega
  ·intro b hb;rw[List.append_nil]at hb;rcases List.mem_cons.1 hb with rfl|hb
   ·exact Or.inr (Or.inr rfl)
   ·rcases List.mem_append.1 hb with hb|hb
    ·exact Or.inl (pX b hb)
    ·exact Or.inr (Or.inl hb)
 rcases h.slice with⟨_,rfl,rfl,rfl,a,rfl⟩|⟨p,o,c,u,m,G,rfl,rfl,eD,ho,ld,_,vs,hr,hR⟩
 ·refine grow a 0 [] [] (by omega) (by simp) ?_ .nil (by simp) rfl;cases a with
  |none=>exact run_firstCells_none W.drew i.size 0 0 0
  |some ad2=>exact run_firstCells_some W.drew i.size 0 ad2 0 0 [] (by simp) (fun j u h=>by simp at h)
 ·have pd:vs.length=n*i.size:=by rw[hR.len,bq,hk,hs]
  by_cases hroom:n+1≤c
  ·have Hb:o+(n+1)*i.size≤m:=by
    have h1:=Nat.mul_le_mul_right i.size hroom;have h2:=eD.2.2;rw[hk,← hs]at h2;omega
   have jS:(n+1)*i.size=n*i.size+i.size:=by rw[Nat.add_mul,Nat.one_mul]
   have kh:=run_append_room_src (P:=P) W t t ty e i ht hi p o n c (.slice (some ad) 1 1) 1 c' Jv hroom (fun j hj=>by
    obtain⟨x,hx⟩:=ho.cell (o+n*i.size+j) (by omega);rw[hx];rfl) (fun j hj=>ho.frozen _)
   have mT:p ∉ G:=kY p G rfl;have yq:p ∉ F':=hdj p G rfl;have hm:Marks (fun b=>b=p) W (W.setCells p (o+n*i.size) c'):=aN (S:=fun b=>b=p) rfl _ _ _;refine⟨_,_,p::((G++F')++[]),some p,kh, ?_, ?_, ?_,⟨hm.os,hm.tape,hm.output,hm.size,fun k hk iM=>hm.block k hk (fun q=>iM (by rw[q]))⟩,fun b hb=>by injection hb with hb;exact⟨G,by rw[← hb]⟩,hm.mono fun c e=>by rw[e]⟩
   ·refine Rep.row e sh p o (n+1) c u m (vs++c') (es++d) (G++F') (dE _ _ _ ho) eD.2.2 (by simp) ⟨by unfold maxLen;omega,hroom⟩ (lz ?_ ?_) ?_ .nil
    ·exact World.rangeAt_setCells_apart hr _ _ _ (Or.inr (Or.inl (by omega)))
    ·rw[pd];exact World.rangeAt_setCells_same _ _ _ _ (aR ho _ _ (by omega))
    ·rw[dx];refine(hR.aY hm fun b hb q=>mT (by have:b=p:=q;rw[← this];exact hb)).app (hd.aY hm fun b hb q=>yq (by have:b=p:=q;rw[← this];exact hb))
   ·intro p1 G1 LG;injection LG with e1 e2
    subst e1;subst e2;refine⟨fun hb=> ?_,Or.inl ⟨G,rfl⟩⟩;rw[List.append_nil]at hb;rcases List.mem_append.1 hb with hb|hb
    ·exact mT hb
    ·exact yq hb
   ·intro b hb;rw[List.append_nil]at hb;rcases List.mem_cons.1 hb with rfl|hb
    ·exact Or.inl (by simp)
    ·rcases List.mem_append.1 hb with hb|hb
     ·exact Or.inl (List.mem_cons_of_mem _ hb)
     ·exact Or.inr (Or.inl hb)
  ·exact grow (some ⟨p,o,none⟩) c vs G (by omega) pd (run_firstCells_some W.drew i.size n ⟨p,o,none⟩ n c vs pd (fun j x hx=>by rw[Addr.add_mid];simpa using hr j x hx)) hR (fun b hb=>by simp[hb]) rfl
inductive PkV (t:ByteArray):List Value→List Value→Prop
 |nil:PkV t [] []
 |same (a:Value) {x y:List Value} (h:PkV t x y):PkV t (a::x) (a::y)
 |put (a:ByteArray) {x y:List Value} (h:PkV t x y):PkV t (.string a::x) (.string t::y)
inductive PkD (t:ByteArray):List Dt→List Dt→Prop
 |nil:PkD t [] []
 |same (a:Dt) {x y:List Dt} (h:PkD t x y):PkD t (a::x) (a::y)
 |put (a:ByteArray) {x y:List Dt} (h:PkD t x y):PkD t (.s a::x) (.s t::y)
 |row (n:Nat) {e e':List Dt} (he:PkD t e e') {x y:List Dt} (h:PkD t x y):PkD t (.row n e::x) (.row n e'::y)
theorem PkV.refl (t:ByteArray):∀ x:List Value,PkV t x x
 |[]=> .nil
 |a::x=> .same a (PkV.refl t x)
theorem PkV.set (t:ByteArray):∀ (x:List Value) (j:Nat) (a:ByteArray),x[j]? =some (.string a)→PkV t x (x.set j (.string t))
 |[],j,a,h=>by simp at h
 |v::x,0,a,h=>by
  have:v=.string a:=by simpa using h
  subst this;exact .put a (PkV.refl t x)
 |v::x,j+1,a,h=>by
  rw[List.set_cons_succ];exact .same v (PkV.set t x j a (by simpa using h))
theorem CK {W:World} {p o B O:Nat} {u:TypeId} {m:Nat} (ho:aL W B u m) (hO:O<m) {t x:ByteArray} (hx:W.cell? ⟨B,O,none⟩=some (.string x)) {vs:List Value} (h:W.rangeAt p o vs):∃ vs',(W.setCell ⟨B,O,none⟩ (.string t)).rangeAt p o vs'∧PkV t vs vs':=by
 by_cases hc:p=B∧o≤O∧O<o+vs.length
 ·obtain⟨rfl,h1,h2⟩:=hc;have hj:O - o<vs.length:=by omega
  have e:=h (O - o) vs[O - o] (by simp[hj]);have e2:o+(O - o)=O:=by omega
  rw[e2,hx]at e;injection e with e
  refine⟨vs.set (O - o) (.string t),fun j v hv=> ?_,PkV.set t vs (O - o) x (by simp[hj,← e])⟩;have Bb:j<vs.length:=by have:=(List.getElem?_eq_some_iff.1 hv).1;simpa using this
  by_cases ej:j=O - o
  ·subst ej;have:v=.string t:=by rw[List.getElem?_set_self hj]at hv;injection hv with hv;exact hv.symm
   rw[this,e2];exact qZ ho _ hO _
  ·rw[List.getElem?_set_ne (fun q=>ej q.symm)]at hv;rw[l4 _ _ _ _ _ _ (Or.inr (by omega))];exact h j v hv
 ·refine⟨vs,fun j v hv=> ?_,PkV.refl t vs⟩;have Bb:j<vs.length:=(List.getElem?_eq_some_iff.1 hv).1;rw[l4 _ _ _ _ _ _ (by by_cases q:p=B;right;intro e;exact hc ⟨q,by omega,by omega⟩;left;exact q)];exact h j v hv
theorem Rep.Lg {W:World} {B O:Nat} {u:TypeId} {m:Nat} (ho:aL W B u m) (hO:O<m) {t x:ByteArray} (hx:W.cell? ⟨B,O,none⟩=some (.string x)) {ss:List Sh} {F:List Nat} {ds:List Dt} {cs:List Value} (h:Rep W false ss F ds cs):∀ pU,PkV t cs pU→∃ ds',Rep (W.setCell ⟨B,O,none⟩ (.string t)) false ss F ds' pU∧PkD t ds ds':=by
 have hb:Marks (fun b=>b=B) W (W.setCell ⟨B,O,none⟩ (.string t)):=Marks.sc (S:=fun b=>b=B) W rfl O _;induction h with
 |nil=>intro pU hp;cases hp;exact⟨[],.nil,.nil⟩
 |i n h ih=>
  intro pU hp;cases hp with
  |same a hq=>obtain⟨d,r,k⟩:=ih _ hq;exact⟨.i n::d,.i n r,.same _ k⟩
 |b n h ih=>
  intro pU hp;cases hp with
  |same a hq=>obtain⟨d,r,k⟩:=ih _ hq;exact⟨.b n::d,.b n r,.same _ k⟩
 |s n h ih=>
  intro pU hp;cases hp with
  |same a hq=>obtain⟨d,r,k⟩:=ih _ hq;exact⟨.s n::d,.s n r,.same _ k⟩
  |put a hq=>obtain⟨d,r,k⟩:=ih _ hq;exact⟨.s t::d,.s t r,.put _ k⟩
 |emp ty sh a ht h ih=>
  intro pU hp;cases hp with
  |same a hq=>obtain⟨d,r,k⟩:=ih _ hq;exact⟨.row 0 []::d,.emp ty sh _ ht r,.same _ k⟩
 |row ty sh p o n c u2 m2 vs es G Kw hm ht hn hr he h ih1 ih2=>
  intro pU hp;cases hp with
  |same a hq=>
   obtain⟨d,r,k⟩:=ih2 _ hq;obtain⟨vs',xX,yd⟩:=CK ho hO hx (t:=t) hr;obtain⟨e',re,ke⟩:=ih1 _ yd;exact⟨.row n e'::d,.row ty sh p o n c u2 m2 vs' e' G (hb.own _ _ _ Kw) hm ht hn xX re r,.row n ke k⟩
theorem uC {α:Type} (f:α→Nat) (m:Nat):∀ l:List α,(∀ x∈l,f x≤m)→(l.map f).sum≤l.length*m
 |[],_=>by simp
 |x::l,h=>by
  have h1:=uC f m l fun y hy=>h y (by simp[hy]);have h2:=h x (by simp);rw[List.map_cons,List.sum_cons,List.length_cons,Nat.succ_mul];omega
theorem E4 {x:Pl.Ln} (h:LnB x):Pl.wln x≤12030:=by
 have h1:=uC (fun w:ByteArray=>w.size+1) 4001 x.ws fun w hw=>by have:=h.2.2 w hw;show w.size+1≤4001;omega
 have h2:Pl.wln x=x.key.size+(x.ws.map fun w=>w.size+1).sum:=rfl;have h3:=h.1;have h4:=h.2.1;have h5:x.ws.length*4001≤3*4001:=Nat.mul_le_mul_right _ h4;omega
theorem qs:∀ s:List Pl.Bl,(∀ b∈s,b.kind.size≤20∧b.name.size≤20∧∀ x∈b.lines,LnB x)→Pl.wsh s≤s.length*41+tl s*12031
 |[],_=>by simp[Pl.wsh,tl]
 |b::s,h=>by
  have h1:=qs s fun c hc=>h c (by simp[hc]);have hb:=h b (by simp);have h2:=uC (fun x=>Pl.wln x+1) 12031 b.lines fun x hx=>by have:=E4 (hb.2.2 x hx);show Pl.wln x+1≤12031;omega
  have h3:Pl.wsh (b::s)=(b.kind.size+b.name.size+(b.lines.map fun x=>Pl.wln x+1).sum+1)+Pl.wsh s:=by
   show ((b::s).map fun b=>Pl.wbl b+1).sum=_;rw[List.map_cons,List.sum_cons];rfl
  have h4:tl (b::s)=b.lines.length+tl s:=by simp[tl]
  rw[h3,h4,List.length_cons,Nat.succ_mul,Nat.add_mul];omega
theorem FR (k:ByteArray):∀ r∈Pl.aj k,r.many=false→(⟨r.key,r.dflt⟩:Pl.Ln).key.size≤20∧Pl.wln ⟨r.key,r.dflt⟩≤200∧∀ t∈r.dflt,t.size≤100:=by
 unfold Pl.aj;split
 ·decide+kernel
 ·split
  ·decide+kernel
  ·split
   ·decide+kernel
   ·intro r h;cases h
theorem FM (k:ByteArray) (l:List Pl.Ln) (x:Pl.Ln):((Pl.dD k l x).map fun x=>Pl.wln x+1).sum=(l.map fun x=>Pl.wln x+1).sum+(Pl.wln x+1):=by
 have e:=List.takeWhile_append_dropWhile (p:=fun y=>Pl.aT k y x) (l:=l);have h:(l.map fun x=>Pl.wln x+1).sum=((l.takeWhile fun y=>Pl.aT k y x).map fun x=>Pl.wln x+1).sum+((l.dropWhile fun y=>Pl.aT k y x).map fun x=>Pl.wln x+1).sum:=by
  rw[← List.sum_append,← List.map_append,e]
 rw[h];simp only[Pl.dD,Pl.putAt,List.map_append,List.map_cons,List.sum_append,List.sum_cons];omega
theorem uZ (k:ByteArray):∀ (rs:List Pl.Ru) (l:List Pl.Ln),(∀ r∈rs,r.many=false→Pl.wln ⟨r.key,r.dflt⟩≤200)→((Pl.cp k l rs).map fun x=>Pl.wln x+1).sum≤(l.map fun x=>Pl.wln x+1).sum+rs.length*201
 |[],l,_=>by show (l.map fun x=>Pl.wln x+1).sum≤_;omega
 |r::rs,l,h=>by
  have h1:=uZ k rs (Pl.cj k l r) fun q hq=>h q (by simp[hq]);have h2:((Pl.cj k l r).map fun x=>Pl.wln x+1).sum≤(l.map fun x=>Pl.wln x+1).sum+201:=by
   unfold Pl.cj;split
   ·rename_i hc
    rw[FM];have:=h r (by simp) (by simp at hc;exact hc.1);omega
   ·omega
  have e:Pl.cp k l (r::rs)=Pl.cp k (Pl.cj k l r) rs:=rfl;rw[e,List.length_cons,Nat.succ_mul];omega
theorem qv (g:Pl.Bl→Pl.Bl) (m:Nat) (h:∀ b,Pl.wbl (g b)≤Pl.wbl b+m):∀ s:List Pl.Bl,Pl.wsh (s.map g)≤Pl.wsh s+s.length*m
 |[]=>by simp[Pl.wsh]
 |b::s=>by
  have h1:=qv g m h s;have h2:=h b;have e:∀ (c:Pl.Bl) (t:List Pl.Bl),Pl.wsh (c::t)=(Pl.wbl c+1)+Pl.wsh t:=fun c t=>by unfold Pl.wsh;rw[List.map_cons,List.sum_cons]
  rw[List.map_cons,e,e,List.length_cons,Nat.succ_mul];omega
theorem jM (f:Pl.Ln→Nat) (p:Pl.Ln→Bool):∀ l:List Pl.Ln,((l.filter p).map f).sum≤(l.map f).sum
 |[]=>by simp
 |x::l=>by
  have:=jM f p l;rw[List.filter_cons];split
  ·rw[List.map_cons,List.map_cons,List.sum_cons,List.sum_cons];omega
  ·rw[List.map_cons,List.sum_cons];omega
def fq (W:World) (lo:Nat) (s:List Pl.Bl) (v:Value):Prop:=(s=[]∧∃ a c,v=.slice a 0 c)∨∃ p o c,v=.slice (some ⟨p,o,none⟩) s.length c∧(s.length≤maxLen∧s.length≤c)∧cv W p o lo s
theorem CB {W:World} {lo:Nat} {s:List Pl.Bl} {v:Value} (h:gp lo W aV [aW s] [v]) (hl:s.length≤maxLen):fq W lo s v:=by
 obtain⟨F,r,nd,eN⟩:=h;by_cases h0:s.length=0
 ·obtain⟨a,c,e⟩:=r.raw.aP;rw[h0]at e;exact Or.inl ⟨List.length_eq_zero_iff.1 h0,a,c,e⟩
 ·obtain⟨p,o,c,e,hc,hx⟩:=kI r nd eN (by omega);exact Or.inr ⟨p,o,c,e,⟨hl,hc⟩,hx⟩
theorem fq.ae {W W':World} {lo:Nat} {s:List Pl.Bl} {v:Value} (h:fq W lo s v) (hb:Bel W W'):fq W' lo s v:=by
 rcases h with h|⟨p,o,c,e,hc,hx⟩
 ·exact Or.inl h
 ·exact Or.inr ⟨p,o,c,e,hc,hx.ae hb⟩
theorem fq.aY {W W':World} {T:Nat→Prop} {lo:Nat} {s:List Pl.Bl} {v:Value} (h:fq W lo s v) (hb:Marks T W W') (hT:∀ b,T b→b<lo):fq W' lo s v:=by
 rcases h with h|⟨p,o,c,e,hc,hx⟩
 ·exact Or.inl h
 ·exact Or.inr ⟨p,o,c,e,hc,hx.aY hb hT⟩
theorem fq.fr {W X:World} {lo R:Nat} {s:List Pl.Bl} {sv v v':Value} {n n' p p':Nat} (h:fq W lo s sv) (hF:Fr R W X) (h1:Rd W R v n p) (h2:Rd X R v' n' p') (hR:R<lo):fq X lo s sv:=h.aY (hF.eJ h1 h2) fun b e=>by have:b=R:=e;omega
theorem cv.lower {W:World} {p o lo lo':Nat} {l:List Pl.Bl} (h:cv W p o lo l) (hl:lo'≤lo):cv W p o lo' l:=by
 obtain⟨u,m,vs,G,h1,h2,h3,h4,h5,h6⟩:=h;exact⟨u,m,vs,G,h1,h2,h3,h4,fun b hb=>⟨Nat.le_trans hl (h5 b hb).1,(h5 b hb).2⟩,Nat.le_trans hl h6⟩
theorem fq.lower {W:World} {lo lo':Nat} {s:List Pl.Bl} {v:Value} (h:fq W lo s v) (hl:lo'≤lo):fq W lo' s v:=by
 rcases h with h|⟨p,o,c,e,hc,hx⟩
 ·exact Or.inl h
 ·exact Or.inr ⟨p,o,c,e,hc,hx.lower hl⟩
theorem fq.raw {W:World} {lo:Nat} {s:List Pl.Bl} {v:Value} (h:fq W lo s v):Raw W aV [aW s] [v]:=by
 rcases h with⟨rfl,a,c,rfl⟩|⟨p,o,c,rfl,hc,hx⟩
 ·exact .emp _ _ a c .nil
 ·exact hx.raw hc
theorem fq.len {W:World} {lo:Nat} {s:List Pl.Bl} {v:Value} (h:fq W lo s v):∃ a c,v=.slice a s.length c:=h.raw.aP
structure Sw (s:List Pl.Bl):Prop where
 len:s.length≤70
 wt:Pl.wsh s≤850000
theorem SdB.sw {s:List Pl.Bl} (h:SdB 66 40 s):Sw s:=by
 have hw:=qs s h.all;have h1:s.length*41≤66*41:=Nat.mul_le_mul_right _ h.len;have h2:tl s*12031≤40*12031:=Nat.mul_le_mul_right _ h.tot;exact⟨by have:=h.len;omega,by omega⟩
theorem yB {s:List Pl.Bl} (h:Pl.wsh s≤1048576):kr s:=fun b hb=>by
 have h1:=Pl.eX (fun b=>Pl.wbl b+1) s b hb;have h2:Pl.wbl b=b.kind.size+b.name.size+(b.lines.map fun x=>Pl.wln x+1).sum:=rfl;unfold Pl.wsh at h;refine⟨by unfold maxLen;omega,fun x hx t ht=> ?_⟩;have mem2:∀ (f:Pl.Ln→Nat) (l:List Pl.Ln) (y:Pl.Ln),y∈l→f y≤(l.map f).sum:=by
  intro f l;induction l with
  |nil=>intro y hy;cases hy
  |cons z l ih=>
   intro y hy;rw[List.map_cons,List.sum_cons];rcases List.mem_cons.1 hy with rfl|q
   ·omega
   ·have:=ih y q;omega
 have mem3:∀ (l:List ByteArray) (y:ByteArray),y∈l→y.size+1≤(l.map fun w=>w.size+1).sum:=by
  intro l;induction l with
  |nil=>intro y hy;cases hy
  |cons z l ih=>
   intro y hy;rw[List.map_cons,List.sum_cons];rcases List.mem_cons.1 hy with rfl|q
   ·omega
   ·have:=ih y q;omega
 have h3:=mem2 (fun x=>Pl.wln x+1) b.lines x hx;have h4:Pl.wln x=x.key.size+(x.ws.map fun w=>w.size+1).sum:=rfl;have h5:=mem3 x.ws t ht;have h6:Pl.wln x+1≤(b.lines.map fun x=>Pl.wln x+1).sum:=h3;unfold maxLen;omega
theorem Sw.gz {s:List Pl.Bl} (h:Sw s):Gz s∧Gz (Pl.bH s)∧Gz (Pl.bR s):=by
 have hw:=h.wt;have hl:=h.len;refine⟨⟨yB (by omega),by omega,by omega⟩, ?_, ?_⟩
 ·have hf:Pl.wsh (Pl.bH s)≤1048576∧(Pl.bH s).length≤70:=by
   unfold Pl.bH;cases hv:Pl.aM s
   ·exact⟨by simp[Pl.wsh],by simp⟩
   ·have J4:=gY hv;have hm:=qv Pl.dN 2412 (fun b=>by
     have h3:=uZ b.kind (Pl.aj b.kind) b.lines fun r hr hm=>(FR b.kind r hr hm).2.1;have h4:=cP b.kind;have h5:(Pl.aj b.kind).length*201≤12*201:=Nat.mul_le_mul_right _ h4;show b.kind.size+b.name.size+((Pl.cp b.kind b.lines (Pl.aj b.kind)).map fun x=>Pl.wln x+1).sum≤b.kind.size+b.name.size+(b.lines.map fun x=>Pl.wln x+1).sum+2412;omega) s
    have h6:s.length*2412≤60*2412:=Nat.mul_le_mul_right _ J4;exact⟨by simp only[if_true];omega,by simp only[if_true,List.length_map];omega⟩
  exact⟨yB hf.1,hf.1,by omega⟩
 ·have hf:Pl.wsh (Pl.bR s)≤1048576∧(Pl.bR s).length≤70:=by
   unfold Pl.bR;cases hv:Pl.aM s
   ·exact⟨by simp[Pl.wsh],by simp⟩
   ·have hm:=qv Pl.dI 0 (fun b=>by
     have h3:=jM (fun x=>Pl.wln x+1) (Pl.bM b.kind) b.lines;show b.kind.size+b.name.size+((b.lines.filter (Pl.bM b.kind)).map fun x=>Pl.wln x+1).sum≤b.kind.size+b.name.size+(b.lines.map fun x=>Pl.wln x+1).sum+0;omega) s
    exact⟨by simp only[if_true];omega,by simp only[if_true,List.length_map];omega⟩
  exact⟨yB hf.1,hf.1,by omega⟩
def iV (P:Program) (f:Nat):Prop:=∀ (R:Nat) (v:Value) (len p:Nat) (W0:World) (s:List Pl.Bl) (sv:Value),Rd W0 R v len p→p≤300000000000→Raw W0 aV [aW s] [sv]→SdB 66 40 s→
 Calls P f #[.pointer (some ⟨R,0,none⟩),.agg #[sv]] W0 fun e W'=>(∃ s' Ik,e=.returned (.agg #[Ik])∧fq W' W0.heap.size s' Ik∧Sw s')∧Fr R W0 W'∧∃ q,q≤p+1000000∧Rd W' R v len q
end Go.Proofs.Ytmgibmmpopoboaa
