import Derived.Maps.AppendAt
import Derived.Laws.OwnMore
import Derived.Test.YtgiglpnaekbegaaGreatDoorELc
import Derived.Test.YtgiglpnaekbegaaGreatDoorRgSt
import Derived.Test.YtgiglpnaekbegaaGreatDoorRgMk
namespace Go.Proofs.YtgiglpnaekbegaaGreatDoor.Pl
def gn (ws:List ByteArray):List UInt8:=ws.flatMap fun w=>32::jC w.data.toList
def gp (x:Ln):List UInt8:=x.key.data.toList++gn x.ws
def wtx (ws:List ByteArray):Nat:=(ws.map fun w=>w.size+1).sum
def wln (x:Ln):Nat:=x.key.size+wtx x.ws
theorem oD (l:List UInt8):(jC l).length≤3*l.length+2:=by
 unfold jC;split
 ·omega
 ·simp only[Xm,At,XX];have:=p8 l;omega
theorem lg:∀ ws:List ByteArray,(gn ws).length≤3*wtx ws
 |[]=>by simp[gn,wtx]
 |w::ws=>by
  have h:=lg ws;have hw:=oD w.data.toList;rw[aD]at hw;simp only[gn,wtx,XP,At,Xm,XS,List.sum_cons]at h ⊢;omega
theorem oN (x:Ln):(gp x).length≤3*wln x:=by
 unfold gp wln;rw[At,aD];have:=lg x.ws;omega
theorem kI {α:Type} (f:α→Nat):∀ (l:List α) (k:Nat),((l.take k).map f).sum≤(l.map f).sum
 |[],k=>by simp
 |x::l,0=>by simp
 |x::l,k+1=>by rw[Ye,XS,XS,List.sum_cons,List.sum_cons];have:=kI f l k;omega
theorem mi {α:Type} (f:α→Nat):∀ (l:List α) (x:α),x∈l→f x≤(l.map f).sum
 |y::l,x,h=>by
  rw[XS,List.sum_cons];rcases XD.1 h with rfl|q
  ·omega
  ·have:=mi f l x q;omega
theorem cp {α:Type} (d:α) (l:List α) (k:Nat) (h:k<l.length):l.take (k+1)=l.take k++[l.getD k d]:=by
 have e:l.getD k d=l[k]:=by simp[h]
 rw[XI h,e]
end Go.Proofs.YtgiglpnaekbegaaGreatDoor.Pl
namespace Go.Proofs.YtgiglpnaekbegaaGreatDoor.Pl
def putAt {α:Type} (p:α→Bool) (l:List α) (x:α):List α:=l.takeWhile p++x::l.dropWhile p
def bS (kind:ByteArray) (l:List Ln) (x:Ln):List Ln:=putAt (fun y=>aL kind y x) l x
def eR (l:List Bl) (x:Bl):List Bl:=putAt (fun y=>ahead y x) l x
theorem L4 {α:Type} (d:α) (p:α→Bool):∀ (l:List α) (k:Nat),k≤l.length→(∀ j,j<k→p (l.getD j d)=true)→(k=l.length∨p (l.getD k d)=false)→l.takeWhile p=l.take k∧l.dropWhile p=l.drop k
 |[],k,hk,_,_=>by simp
 |y::l,0,_,_,h=>by
  have:p y=false:=by
   rcases h with h|h
   ·simp at h
   ·simpa using h
  simp[this]
 |y::l,k+1,hk,ha,h=>by
  have hy:p y=true:=by simpa using ha 0 (by omega)
  obtain⟨h1,h2⟩:=L4 d p l k (by simpa using hk) (fun j hj=>by simpa using ha (j+1) (by omega)) (by simpa using h);simp[hy,h1,h2]
theorem wV {α:Type} (d:α) (p:α→Bool) (l:List α) (x:α) (k:Nat) (hk:k≤l.length) (ha:∀ j,j<k→p (l.getD j d)=true) (h:k=l.length∨p (l.getD k d)=false):putAt p l x=l.take k++x::l.drop k:=by
 obtain⟨h1,h2⟩:=L4 d p l k hk ha h;rw[putAt,h1,h2]
end Go.Proofs.YtgiglpnaekbegaaGreatDoor.Pl
namespace Go.Proofs.YtgiglpnaekbegaaGreatDoor
set_option maxRecDepth 8000
set_option maxHeartbeats 40000000
open Go.RowKit Go.Deep
theorem Tryz.cI:Tryz.prog.underlying 35=some (.slice 41):=by kernel_rfl
theorem Tryz.ir:(Tryz.prog.info? 41).map (fun i=>(i.zero,i.size,i.bytes))=some (some (.agg #[.string {data:=#[]},.slice none 0 0]),2,40):=by kernel_rfl
def VCl (vo vl:Value) (b p o k:Nat) (x:Pl.Ln) (aw:Option Addr) (cw:Nat) (jj:Nat) (u:Value) (W:World):Prop:=match jj with
 |0=>u=vo
 |1|7=>u=vl
 |2|8=>u=.int .i64 (k:Int)
 |3|4|9=>u=.pointer (some ⟨p,o+k*2,none⟩)
 |5=>u=.string x.key
 |6=>∃ g,u=.slice (some ⟨g,0,none⟩) 0 0∧b≤g∧W.heap[g]? =some (.cells #[] 9 (0,0))
 |10=>u=.pointer (some ⟨p,o+k*2+1,none⟩)
 |11=>u=.slice aw x.ws.length cw
 |12=>∃ wx wc xs,u=.slice wx x.ws.length wc∧Gr W b 9 [.s] (.slice wx x.ws.length wc) x.ws.length [] (txD x.ws) xs
 |13=>∃ wx wc xs,u=.agg #[.string x.key,.slice wx x.ws.length wc]∧Gr W b 9 [.s] (.slice wx x.ws.length wc) x.ws.length [] (txD x.ws) xs
 |14=>∃ q wx wc xs,u=.slice (some ⟨q,0,none⟩) 1 1∧W.heap[q]? =some (.cells #[.string x.key,.slice wx x.ws.length wc] 41 (0,0))∧Gr W b 9 [.s] (.slice wx x.ws.length wc) x.ws.length [] (txD x.ws) xs
 |_=>True
theorem EF (vo vl:Value) (b p o k:Nat) (x:Pl.Ln) (aw:Option Addr) (cw:Nat):∀ j u W W',Bel W W'→VCl vo vl b p o k x aw cw j u W→VCl vo vl b p o k x aw cw j u W':=by
 intro j u W W' hb h;match j with
 |0|1|2|3|4|5|7|8|9|10|11=>exact h
 |6=>
  obtain⟨g,e,hg,hc⟩:=h;exact⟨g,e,hg,(hb.block g (Xh.1 hc).1).trans hc⟩
 |12|13=>
  obtain⟨wx,wc,xs,e,hg⟩:=h;exact⟨wx,wc,xs,e,hg.later hb⟩
 |14=>
  obtain⟨q,wx,wc,xs,e,hc,hg⟩:=h;exact⟨q,wx,wc,xs,e,(hb.block q (Xh.1 hc).1).trans hc,hg.later hb⟩
 |n+15=>exact trivial
theorem ow (l:List Pl.Ln) (v:Value) (w:World) (h:Raw w aV [bD l] [v]) (hl:l.length≤4194304) (hw:∀ x∈l,x.ws.length≤4194304):
  Calls Tryz.prog 23 #[v] w (eT aV (bD l) w):=by
 obtain⟨i0,iK,dp,eV,kD⟩:=i6 Tryz.ir;have HL:=uh h;have l4:=uh hw;obtain⟨va,vc,ev⟩:=h.aT;subst ev;clear h hw;obtain⟨n,hn⟩:∃ n,n=l.length:=⟨_,rfl⟩
 have HN:=uh hn;have O4:n≤4194304:=by omega
 rw[← hn];clear hn hl;obtain⟨wa,aP⟩:∃ wa,wa=w:=⟨_,rfl⟩
 go_enter Tryz.func23,Tryz.ntmps23
 rw[← aP];rw[← aP]at HL;clear aP;go_wp2;go_loopw [3,4] (fun vo vi wr=>∃ (k:Nat) (G:List Nat) (xs:List Value),k≤n∧vi=.int .i64 k∧Gr wr wa.heap.size 41 ao vo k G ((l.take k).flatMap lnD) xs∧Bel wa wr) (fun _ vi _=>n - (intOf vi).toNat)
 case atStart=>exact⟨0,[],[],zN,rfl,Gr.emp ao (heap_alloc_new wa _) zE,af zR _⟩
 case round=>
  obtain⟨k,G,xs,hk,rfl,hG,hB⟩:=hrel;have cV:=uh hG;have cB:=uh hB;obtain⟨ua,uc,sD⟩:=hG.shape;subst sD;clear hG hB;by_cases bq:k<n
  rotate_left
  ·have jq:l.take k=l:=Xp (by have:=HN.out;omega);obtain rfl:k=l.length:=by have:=HN.out;omega
   rw[jq]at cV;obtain⟨F,r,nd,fr⟩:=cV.out.done;have HD:Hid (eT aV (bD l) wa (.returned (.slice ua l.length uc)) wr):=⟨_,F,rfl,r,nd,fr,cB.out⟩
   clear r nd fr jq;go_wp2;go_ret;exact HD.out
  have eB:k<l.length:=by have:=HN.out;omega
  rcases bO (HL.out.later cB.out) with⟨e0,_⟩|⟨p,o,c,hv,hp,dR,aE⟩
  ·omega
  rw[← HN.out]at hv;injection hv with g1 _ g3
  subst g1;subst g3;obtain⟨aw,cw,dm,dH⟩:=aE k eB;have kc:=uh (Pl.cp Pl.aK l k eB);have OI:(l.getD k Pl.aK).ws.length≤4194304:=by
   have e:l.getD k Pl.aK=l[k]:=by simp[eB]
   rw[e];exact l4.out _ (Xq eB)
  obtain⟨x,hx⟩:∃ x,x=l.getD k Pl.aK:=⟨_,rfl⟩
  rw[← hx]at dm dH kc OI;have cU:=uh dm;have HF:=uh dH;have TH:=uh OI;have de:=uh hp;have cZ:(0:Int)≤(k:Int):=by omega
  have dy:(k:Int)<(n:Int):=by omega
  clear hx dm dH OI hp aE dR;go_upto_region 5 with fail
  refine RY.me wr zR (VCl (.slice ua k uc) (.slice (some ⟨p,o,none⟩) n vc) wr.heap.size p o k x aw cw) (EF _ _ _ _ _ _ _ _ _) (fun u W'=>∃ g cap G' xs',u=.slice (some ⟨g,0,none⟩) (k+1) cap∧Gr W' wa.heap.size 41 ao u (k+1) G' ((l.take (k+1)).flatMap lnD) xs'∧Bel wa W') 15 12 27 3 (by kernel_rfl) (by kernel_rfl) (by kernel_rfl) (by kernel_rfl) (by kernel_rfl) rfl (by kernel_rfl) _ _ rfl rfl rfl rfl rfl (by kernel_rfl) ?_ ?_ ?_
  ·intro i o' ho iN a X hX hk hd;have y0:X.cell? ⟨p,o+k*2,none⟩=some (.string x.key):=(hX.cell (p:=⟨p,o+k*2,none⟩) de.out).trans (aF cU.out 0 _ rfl);have y1:X.cell? ⟨p,o+k*2+1,none⟩=some (.slice aw x.ws.length cw):=(hX.cell (p:=⟨p,o+k*2+1,none⟩) de.out).trans (aF cU.out 1 _ rfl);match i,ho with
   |0,rfl=>
    have e3:a.tmps[3]?.getD undef=.slice ua k uc:=(RY.ai a 3).trans ((hk 3 (RY.aS (by kernel_rfl))).trans rfl);exact⟨.slice ua k uc,X,by simp[execOp,go_sem,e3],zR,rfl⟩
   |1,rfl|7,rfl=>
    have e0:a.tmps[0]?.getD undef=.slice (some ⟨p,o,none⟩) n vc:=(RY.ai a 0).trans ((hk 0 (RY.aS (by kernel_rfl))).trans rfl);exact⟨.slice (some ⟨p,o,none⟩) n vc,X,by simp[execOp,go_sem,e0],zR,rfl⟩
   |2,rfl|8,rfl=>
    have e4:a.tmps[4]?.getD undef=.int .i64 (k:Int):=(RY.ai a 4).trans ((hk 4 (RY.aS (by kernel_rfl))).trans rfl);exact⟨.int .i64 (k:Int),X,by simp[execOp,go_sem,e4],zR,rfl⟩
   |3,rfl=>
    exact⟨.pointer (some ⟨p,o+k*2,none⟩),X,by simp[execOp,go_sem,RY.E1 hd 1 13,RY.E1 hd 2 14,cZ,dy],zR,rfl⟩
   |4,rfl=>
    exact⟨.pointer (some ⟨p,o+k*2,none⟩),X,by simp[execOp,go_sem,RY.E1 hd 3 15],zR,rfl⟩
   |5,rfl=>
    exact⟨.string x.key,X,by simp[execOp,go_sem,RY.E1 hd 4 16,y0],zR,rfl⟩
   |6,rfl=>
    exact⟨_,X.alloc (.cells #[] 9),by simp[execOp,go_sem],af zR _,⟨X.heap.size,rfl,hX.size,heap_alloc_new X _⟩⟩
   |9,rfl=>
    exact⟨.pointer (some ⟨p,o+k*2,none⟩),X,by simp[execOp,go_sem,RY.E1 hd 7 19,RY.E1 hd 8 20,cZ,dy],zR,rfl⟩
   |10,rfl=>
    exact⟨.pointer (some ⟨p,o+k*2+1,none⟩),X,by simp[execOp,go_sem,RY.E1 hd 9 21],zR,rfl⟩
   |11,rfl=>
    exact⟨.slice aw x.ws.length cw,X,by simp[execOp,go_sem,RY.E1 hd 10 22,y1],zR,rfl⟩
   |12,rfl=>
    obtain⟨g,e0,gh,yY⟩:=hd 6 _ 18 rfl rfl ⟨⟨6,.data⟩,by simp,rfl,rfl⟩ (by decide);have e1:=hd 11 _ 23 rfl rfl ⟨⟨11,.data⟩,by simp,rfl,rfl⟩ (by decide);obtain⟨v',X',xs',hr,hg,hb⟩:=kO (P:=Tryz.prog) wr.heap.size 38 38 9 9 1 16 _ Tryz.gP Tryz.bI rfl (by decide) (by decide) [.s] rfl (by simp[dL]) X (.slice (some ⟨g,0,none⟩) 0 0) (Xk ⟨g,rfl,gh,yY⟩) hX.size x.ws.length (txD x.ws) (.slice aw x.ws.length cw) (HF.out.later hX) TH.out;obtain⟨wx,wc,wg⟩:=hg.shape;subst wg;exact⟨_,X',aQ (.tmp 18) (.tmp 23) 38 rfl e0 e1 hr,hb,wx,wc,xs',rfl,hg⟩
   |13,rfl=>
    have e0:=(RY.ai a 17).trans (hd 5 _ 17 rfl rfl ⟨⟨5,.data⟩,by simp,rfl,rfl⟩ (by decide));obtain⟨wx,wc,xs',e1,hg⟩:=hd 12 _ 24 rfl rfl ⟨⟨12,.data⟩,by simp,rfl,rfl⟩ (by decide);have e2:=(RY.ai a 24).trans e1;exact⟨.agg #[.string x.key,.slice wx x.ws.length wc],X,by simp[execOp,go_sem,e0,e2],zR,wx,wc,xs',rfl,hg⟩
   |14,rfl=>
    obtain⟨wx,wc,xs',e1,hg⟩:=hd 13 _ 25 rfl rfl ⟨⟨13,.data⟩,by simp,rfl,rfl⟩ (by decide);have e2:=(RY.ai a 25).trans e1;exact⟨.slice (some ⟨X.heap.size,0,none⟩) 1 1,X.alloc (.cells #[.string x.key,.slice wx x.ws.length wc] 41),by simp[execOp,go_sem,e2],af zR _,X.heap.size,wx,wc,xs',rfl,heap_alloc_new X _,hg.later (af zR _)⟩
   |n+15,ho=>omega
  ·intro a X hX hk hd;have y0:X.cell? ⟨p,o+k*2,none⟩=some (.string x.key):=(hX.cell (p:=⟨p,o+k*2,none⟩) de.out).trans (aF cU.out 0 _ rfl);have y1:X.cell? ⟨p,o+k*2+1,none⟩=some (.slice aw x.ws.length cw):=(hX.cell (p:=⟨p,o+k*2+1,none⟩) de.out).trans (aF cU.out 1 _ rfl);have e0:=hd 0 _ 12 rfl rfl ⟨⟨0,.data⟩,by simp,rfl,rfl⟩ (by decide);obtain⟨q,wx,wc,ys,e1,dG,hg⟩:=hd 14 _ 26 rfl rfl ⟨⟨14,.data⟩,by simp,rfl,rfl⟩ (by decide);obtain⟨FW,rr,nd,fr⟩:=hg.done;have gC:Rep X false ao (FW++[]) (lnD x) [.string x.key,.slice wx x.ws.length wc]:=fE x.key rr;have PU:=cV.out.later hX;obtain⟨g,cap,X',bC,dN,pH,yY,_⟩:=run_append_lies (P:=Tryz.prog) (w:=X) 35 35 wa.heap.size 41 i0 _ 2 40 Tryz.cI iK dp eV kD rfl (by decide) (.slice ua k uc) k xs PU.row ⟨q,0,none⟩ 1 1 [.string x.key,.slice wx x.ws.length wc] rfl (fun j y hy=>by rw[Addr.add_mid,Xr];simp only[World.cell?,dG];simpa using hy) (fun y hy=>gC.raw.one y hy) (by decide) (by unfold maxLen;omega) (by omega) (Xg cB.out.size hX.size) X.heap.size rfl;refine⟨_,X',aQ (.tmp 12) (.tmp 26) 35 rfl e0 e1 bC,g,cap,G++(FW++[]),xs++[.string x.key,.slice wx x.ws.length wc],rfl, ?_, ?_⟩
   ·have:=cV.out.push (F:=FW++[]) hX gC (by rw[Xl];exact nd) (fun b hb=>by rw[Xl]at hb;exact fr b hb) cB.out.size dN pH zE yY;rw[kc.out,Xv,XE];exact this
   ·exact dF (ae cB.out hX) pH (fun b hb=>(aW PU.row hb).1)
  ·rintro vals X hK e2;simp only[RY.aC,Act.put,so,As,An];rw[e2];generalize vals 12=s12;generalize vals 13=s13;generalize vals 14=s14;generalize vals 15=s15;generalize vals 16=s16;generalize vals 17=s17;generalize vals 18=s18;generalize vals 19=s19;generalize vals 20=s20;generalize vals 21=s21;generalize vals 22=s22;generalize vals 23=s23;generalize vals 24=s24;generalize vals 25=s25;generalize vals 26=s26;obtain⟨g,cap,G',xs',e1,hg,hb⟩:=hK;rw[e1]at hg ⊢;have HN:=uh (Xt hg hb);clear hg hb e1 e2 cV cB;go_wp2;go_roundw
   case rel=>exact⟨k+1,G',xs',by omega,by go_num,HN.out.1,HN.out.2⟩
   case measure=>simp[intOf];omega
namespace RY
theorem xG {P:Program} {id:Nat} {Q:Exit→Act→World→Prop} {a0:Act} {w:World} {l:List Oper} (v:World) (hv:Bel v w) (V:Nat→Value→World→Prop) (hVm:∀ j u W W',Bel W W'→V j u W→V j u W') (K K2:Value→World→Prop) (pv:Value) (n fuel kL kP:Nat)
  (hm:P.follows .mixedOrders=true) (hasc:asc .any l.toArray=true) (hap:ek l=true) (eH:eN l a0.tmps.size=true)
  (hclo:((List.range n).all fun i=>(clo l fuel [n]).contains i)=true) (hlen:l.length=n+3) (km:((l.take (n+2)).all fun o=>o.dst.isSome)=true)
  (oL oP oS:Oper) (hL:l[n]? =some oL) (hLd:oL.dst=some kL) (hP:l[n+1]? =some oP) (hPd:oP.dst=some kP) (hS:l[n+2]? =some oS) (hSd:oS.dst=none) (hSL:waits l (n+2) n=true) (hSP:waits l (n+2) (n+1)=true)
  (ij:∀ (i:Nat) (o:Oper),l[i]? =some o→i<n→∀ (a:Act) (W:World),Bel v W→(∀ k,ew l k=true→a.eval (.tmp k)=a0.eval (.tmp k))→
   (∀ (j:Nat) (o':Oper) (k:Nat),l[j]? =some o'→o'.dst=some k→(∃ e∈o.after,e.on=j∧Region.binds .any e=true)→j<n→V j (a.eval (.tmp k)) W)→
   (∃ u W',(execOp a.eval o).run P W=.ok (.value u) W'∧Bel W W'∧V i u W')∨(∃ f args,(execOp a.eval o).run P W=.ok (.enter f args) W∧Calls P f args W fun e W'=>∃ u,e=.returned u∧Bel W W'∧V i u W'))
  (hfin:∀ (a:Act) (W:World),Bel v W→(∀ k,ew l k=true→a.eval (.tmp k)=a0.eval (.tmp k))→
   (∀ (j:Nat) (o':Oper) (k:Nat),l[j]? =some o'→o'.dst=some k→(∃ e∈oL.after,e.on=j∧Region.binds .any e=true)→j<n→V j (a.eval (.tmp k)) W)→
   ∃ u W',(execOp a.eval oL).run P W=.ok (.value u) W'∧K u W')
  (hpt:∀ (a:Act) (W:World),(∀ k,ew l k=true→a.eval (.tmp k)=a0.eval (.tmp k))→(execOp a.eval oP).run P W=.ok (.value pv) W)
  (qw:∀ (a:Act) (W:World),K (a.eval (.tmp kL)) W→a.eval (.tmp kP)=pv→∃ W',(execOp a.eval oS).run P W=.ok .skip W'∧K2 (a.eval (.tmp kL)) W')
  (hend:∀ (vs:Nat→Value) (W:World),K2 (vs kL) W→vs kP=pv→Q .normal (aC l a0 vs) W):
  (Code.region id l.toArray true).wp P Q a0 w:=by
 have fk:∀ {i:Nat} {o:Oper},l[i]? =some o→i<n+2→o.dst.isSome=true:=fun h hi=>by
  rw[Xu]at km;exact km _ (Xx ((XM hi).trans h))
 refine lA (fun _ _=>True) (fun up vals W=>(up n=false→up (n+2)=false∧Bel v W∧∀ j,j<n→up j=true→V j (vals j) W)∧(up n=true→up (n+2)=false→K (vals n) W)∧(up (n+1)=true→vals (n+1)=pv)∧(up (n+2)=true→K2 (vals n) W)) hm hasc hap eH ?_ ?_ ?_
 ·intro vals;exact⟨fun _=>⟨rfl,XF hv,fun _ _ h=>(by cases h)⟩,fun h=>(by cases h),fun h=>(by cases h),fun h=>(by cases h)⟩
 ·intro up vals i o ho hi fT a W hk hd hT;have qp:∀ k,ew l k=true→a.eval (.tmp k)=a0.eval (.tmp k):=fun k h=>hk k fun j o' hj hj'=>absurd hj' (mD h hj);have bA:up n=true→∀ j,j<n→up j=true:=fun hn j hj=>by
   rw[Xu]at hclo;have:=hclo j (XV.2 hj);rw[YI]at this;exact gV fT fuel [n] (by simpa using hn) j this
  have uL:i<n+3:=by rw[← hlen];exact(Xn.1 ho).1
  have hS2:up (n+2)=true→up n=true∧up (n+1)=true:=fun h=>by
   obtain⟨e,he,h4,h5⟩:=bj hSL hS;obtain⟨e',he',h4',h5'⟩:=bj hSP hS;exact⟨by have:=fT (n+2) oS e hS he h5 h;rwa [h4]at this,by have:=fT (n+2) oS e' hS he' h5' h;rwa [h4']at this⟩
  by_cases h1:i<n
  ·have hn:up n=false:=by
    cases e:up n
    ·rfl
    ·rw[bA e i h1]at hi;cases hi
   obtain⟨y9,hB,hV⟩:=hT.1 hn;have Oo:=ij i o ho h1 a W hB qp
    (fun j o' k hj iP gQ lR=>by
     obtain⟨q1,q2,_⟩:=hd j o' k hj iP gQ;rw[q2];exact hV j lR q1)
   have e0:n≠i:=by omega
   have e1:n+1≠i:=by omega
   have e2:n+2≠i:=by omega
   have R5:∀ u W',Bel W W'→V i u W'→(((fun j=>(j==i)||up j) n=false→(fun j=>(j==i)||up j) (n+2)=false∧Bel v W'∧∀ j,j<n→(fun j=>(j==i)||up j) j=true→V j ((fun j=>if j=i then u else vals j) j) W')∧((fun j=>(j==i)||up j) n=true→(fun j=>(j==i)||up j) (n+2)=false→K ((fun j=>if j=i then u else vals j) n) W')∧((fun j=>(j==i)||up j) (n+1)=true→(fun j=>if j=i then u else vals j) (n+1)=pv)∧((fun j=>(j==i)||up j) (n+2)=true→K2 ((fun j=>if j=i then u else vals j) n) W')):=by
    intro u W' hb hu;refine⟨fun _=>⟨?_,ae hB hb,fun j hj sN=> ?_⟩,fun h=> ?_,fun h=> ?_,fun h=> ?_⟩
    ·simpa [e2]using y9
    ·by_cases e:j=i
     ·subst e;dsimp only;rw[if_pos rfl];exact hu
     ·dsimp only;rw[if_neg e]
      have:up j=true:=by simpa [e]using sN
      exact hVm _ _ _ _ hb (hV j hj this)
    ·have:up n=true:=by simpa [e0]using h
     rw[hn]at this;cases this
    ·dsimp only;rw[if_neg e1];exact hT.2.2.1 (by simpa [e1]using h)
    ·have:up (n+2)=true:=by simpa [e2]using h
     rw[y9]at this;cases this
   rcases Oo with⟨u,W',hr,hb,hu⟩|⟨f,args,hr,hc⟩
   ·exact No ⟨u,W',hr,fk ho (by omega),trivial,R5 u W' hb hu⟩
   ·exact Xk (Xk ⟨f,args,hr,fk ho (by omega),hc.mono fun e W' ⟨u,he,hb,hu⟩=>⟨u,he,trivial,R5 u W' hb hu⟩⟩)
  ·by_cases h2:i=n
   ·subst h2;obtain⟨y9,hB,hV⟩:=hT.1 hi;obtain rfl:o=oL:=Option.some.inj (ho.symm.trans hL);obtain⟨u,W',hr,hK⟩:=hfin a W hB qp
     (fun j o' k hj iP gQ lR=>by
      obtain⟨q1,q2,_⟩:=hd j o' k hj iP gQ;rw[q2];exact hV j lR q1)
    have e1:i+1≠i:=by omega
    have e2:i+2≠i:=by omega
    refine No ⟨u,W',hr,fk ho (by omega),trivial,⟨fun h=>by simp at h,fun _ _=>by dsimp only;rw[if_pos rfl];exact hK,fun h=> ?_,fun h=> ?_⟩⟩
    ·dsimp only;rw[if_neg e1];exact hT.2.2.1 (by simpa [e1]using h)
    ·have:up (i+2)=true:=by simpa [e2]using h
     rw[y9]at this;cases this
   ·by_cases h3:i=n+1
    ·subst h3;obtain rfl:o=oP:=Option.some.inj (ho.symm.trans hP);have y9:up (n+2)=false:=by
      cases e:up (n+2)
      ·rfl
      ·rw[(hS2 e).2]at hi;cases hi
     have e0:n≠n+1:=by omega
     have e2:n+2≠n+1:=by omega
     refine No ⟨pv,W,hpt a W qp,fk ho (by omega),trivial,⟨fun h=> ?_,fun h _=> ?_,fun _=> ?_,fun h=> ?_⟩⟩
     ·obtain⟨q1,q2,q3⟩:=hT.1 (by simpa [e0]using h);refine⟨by simpa [e2]using q1,q2,fun j hj sN=> ?_⟩;have e:j≠n+1:=by omega
      dsimp only;rw[if_neg e];exact q3 j hj (by simpa [e]using sN)
     ·dsimp only;rw[if_neg e0];exact hT.2.1 (by simpa [e0]using h) y9
     ·dsimp only;rw[if_pos rfl]
     ·have:up (n+2)=true:=by simpa [e2]using h
      rw[y9]at this;cases this
    ·have h4:i=n+2:=by omega
     subst h4;obtain rfl:o=oS:=Option.some.inj (ho.symm.trans hS);obtain⟨u1,q1,_⟩:=hd n oL kL hL hLd (by obtain⟨e,he,h4,h5⟩:=bj hSL hS;exact⟨e,he,h4,h5⟩);obtain⟨u2,q2,_⟩:=hd (n+1) oP kP hP hPd (by obtain⟨e,he,h4,h5⟩:=bj hSP hS;exact⟨e,he,h4,h5⟩);obtain⟨W',hr,PJ⟩:=qw a W (by rw[q1];exact hT.2.1 u1 hi) (by rw[q2];exact hT.2.2.1 u2);refine Xk (No ⟨W',hr,hSd,⟨fun h=> ?_,fun _ h=> ?_,fun _=>hT.2.2.1 u2,fun _=>by rw[← q1];exact PJ⟩⟩)
     ·dsimp only at h;rw[u1]at h;simp at h
     ·simp at h
 ·intro up vals vs W sN bn hT;have h1:=bn n oL kL hL hLd;have h2:=bn (n+1) oP kP hP hPd;refine hend vs W ?_ ?_
  ·rw[h1.1];exact hT.2.2.2 (sN (n+2) (by omega))
  ·rw[h2.1];exact hT.2.2.1 (sN (n+1) (by omega))
end RY
theorem Dw (b:Pl.Bl) (lv:Value) (w:World) (h:Raw w aV [bD b.lines] [lv]) (hl:b.lines.length≤4194304) (hw:∀ x∈b.lines,x.ws.length≤4194304):
  Calls Tryz.prog 43 #[.agg #[.string b.kind,.string b.name,lv]] w (Ans aq (blD b) w):=by
 obtain⟨va,vc,ev⟩:=h.aT;subst ev;obtain⟨n,hn⟩:∃ n,n=b.lines.length:=⟨_,rfl⟩
 rw[← hn]at h ⊢;obtain⟨wa,aP⟩:∃ wa,wa=(w.alloc (.cells #[.string b.kind,.string b.name,.slice va n vc] 58)).alloc (.cells #[.string {data:=#[]},.string {data:=#[]},.slice none 0 0] 58):=⟨_,rfl⟩
 have wN:Bel w wa:=by rw[aP];exact af (af zR _) _
 have B3:wa.heap.size=w.heap.size+2:=by rw[aP];simp
 have HX:Hid (aA wa w.heap.size 58 [.string b.kind,.string b.name,.slice va n vc]):=by
  show aA _ _ _ _;rw[aP];exact(aA.new w [.string b.kind,.string b.name,.slice va n vc] 58 _ rfl).later (af zR _)
 have HR:Hid (aA wa (w.heap.size+1) 58 [.string {data:=#[]},.string {data:=#[]},.slice none 0 0]):=by
  show aA _ _ _ _;rw[aP];exact aA.new (w.alloc (.cells #[.string b.kind,.string b.name,.slice va n vc] 58)) [.string {data:=#[]},.string {data:=#[]},.slice none 0 0] 58 _ (by simp)
 have HC:=uh (ow b.lines _ wa (h.later wN) hl hw);have ti:=uh wN;have DN:=uh B3;clear h hl hw hn wN B3;go_enter Tryz.func43,Tryz.ntmps43
 go_upto_region 1 with fail
 rw[← aP];clear aP;obtain⟨b0,aU⟩:∃ b0,b0=w.heap.size:=⟨_,rfl⟩
 rw[← aU]at HX HR DN ⊢;have dX:=uh aU;clear aU;have x2:=HX.out.get 2 _ rfl;have xl:=HX.out.own.lt;go_wp2_with fail
 refine HC.out.mono ?_;rintro e w1 ⟨v1,F,rfl,hr,nd,lo,hb⟩;obtain⟨a1,c1,h9⟩:=hr.raw.aT;subst h9;clear x2 xl HC;have H1:=uh (HX.out.later hb);have H2:=uh (HR.out.later hb);have Au:=uh (Xt hr (Xt nd lo));have lS:=uh hb;clear hr nd lo hb HX HR;have x2:=H1.out.get 2 _ rfl;have xl:=H1.out.own.lt;have xf:=H1.out.own.frozen 2;go_upto_region 2 with fail
 clear x2 xl xf;obtain⟨w2,fw⟩:∃ w2,w2=w1.setCell ⟨b0,2,none⟩ (.slice a1 b.lines.length c1):=⟨_,rfl⟩
 have H3:Hid (aA w2 b0 58 [.string b.kind,.string b.name,.slice a1 b.lines.length c1]):=by show aA _ _ _ _;rw[fw];exact H1.out.set 2 (.slice a1 b.lines.length c1) (by simp)
 have H4:Hid (aA w2 (b0+1) 58 [.string {data:=#[]},.string {data:=#[]},.slice none 0 0]):=by show aA _ _ _ _;rw[fw];exact H2.out.other (by omega) _ _
 have pT:Hid (Marks (fun b=>b=b0) w1 w2):=by show Marks _ _ _;rw[fw];exact Marks.sc (S:=fun b=>b=b0) w1 rfl 2 (.slice a1 b.lines.length c1)
 rw[← fw];clear fw H1 H2;have lF:=H3.out.at_;have iO:=H3.out.own.lt;have qv:=H4.out.own.lt;have bJ:w2.there (b0+1) 0 (#[.string b.kind,.string b.name,.slice a1 b.lines.length c1]:Array Value).size:=aX H4.out.own _ _ (by simp);obtain⟨we,aZ⟩:∃ we,we=w2.setCells (b0+1) 0 [.string b.kind,.string b.name,.slice a1 b.lines.length c1]:=⟨_,rfl⟩
 have dP:we.rangeAt (b0+1) 0 [.string b.kind,.string b.name,.slice a1 b.lines.length c1]:=by rw[aZ];exact World.rangeAt_setCells_same _ _ _ _ bJ
 have gT:Hid (Marks (fun b=>b=b0+1) w2 we):=by show Marks _ _ _;rw[aZ];exact bf (S:=fun b=>b=b0+1) rfl _ _ _
 have wj:∀ x∈ [Value.string b.kind,.string b.name,.slice a1 b.lines.length c1],x.oneCell'=true:=fun x hx=>(oF b.kind b.name Au.out.1.raw).one x hx;have hon:=all_oneCell_toArray wj;clear wj;go_wp2_with (first|(refine wpList_load_mid rfl 58 _ rfl b0 0 rfl [.string b.kind,.string b.name,.slice a1 b.lines.length c1] _ lF Tryz.underlying58 rfl (by kernel_rfl) ?_)|(refine wpList_store_mid rfl 58 _ _ rfl (b0+1) 0 #[.string b.kind,.string b.name,.slice a1 b.lines.length c1] rfl rfl bJ (by kernel_rfl) hon ?_))
 first|rw[← aZ]|(simp only[Xi];rw[← aZ])
 try simp only[Act.put]
 refine bodyPost_ret (v:=.agg #[.string b.kind,.string b.name,.slice a1 b.lines.length c1]) (by simp[results,Tryz.results43,asAddr,run_loadVar_mid (P:=Tryz.prog) _ _ _ 58 [.string b.kind,.string b.name,.slice a1 b.lines.length c1] _ dP Tryz.underlying58 rfl (by kernel_rfl)]) rfl ?_;have p5:∀ b∈F,b0+2≤b:=fun b hb=>by have:=Au.out.2.2 b hb;have:=DN.out;omega
 refine⟨[.string b.kind,.string b.name,.slice a1 b.lines.length c1],F++[],rfl,cT b.kind b.name ((Au.out.1.cO pT.out fun b hb e=>by have:=p5 b hb;omega).cO gT.out fun b hb e=>by have:=p5 b hb;omega),by rw[Xl];exact Au.out.2.1,fun b hb=> ?_, ?_⟩
 ·rw[Xl]at hb;have:=p5 b hb;have:=dX.out;omega
 ·have h1:=ae ti.out lS.out;have h2:=pT.out.below (fun b e=>by have:=dX.out;omega) h1;exact gT.out.below (fun b e=>by have:=dX.out;omega) h2
theorem Tryz.cW:Tryz.prog.underlying 24=some (.slice 58):=by kernel_rfl
theorem Tryz.ka:(Tryz.prog.info? 58).map (fun i=>(i.zero,i.size,i.bytes))=some (some (.agg #[.string {data:=#[]},.string {data:=#[]},.slice none 0 0]),3,56):=by kernel_rfl
structure CyK (w:World) (b0:Nat) (lv uv:Value) (W:World):Prop where
 bel:Bel w W
 arg:au W b0 [lv]
 res:aA W (b0+1) 26 [.slice none 0 0]
 out:aA W (b0+2) 26 [uv]
structure Cy (w:World) (b0:Nat) (lv uv:Value) (k:Nat) (G:List Nat) (es:List Dt) (xs:List Value) (W:World):Prop extends CyK w b0 lv uv W where
 row:Gr W (b0+3) 58 aq uv k G es xs
theorem au.sc {W:World} {p q:Nat} {cs:List Value} (h:au W p cs) (hn:p≠q) (j:Nat) (x:Value):au (W.setCell ⟨q,j,none⟩ x) p cs:=
 h.mks (Marks.sc (S:=fun b=>b=q) W rfl j x) hn
theorem Gr.sc {W:World} {lo:Nat} {t:TypeId} {sh:List Sh} {v:Value} {n:Nat} {G:List Nat} {es:List Dt} {xs:List Value} (h:Gr W lo t sh v n G es xs) {q:Nat} (hq:q<lo) (j:Nat) (x:Value):Gr (W.setCell ⟨q,j,none⟩ x) lo t sh v n G es xs:=
 ⟨fV h.row (Marks.sc (S:=fun b=>b=q) W rfl j x) fun b hb e=>by omega,h.rep.cO (Marks.sc (S:=fun b=>b=q) W rfl j x) fun b hb e=>by have:=(h.fr b hb).1;omega,h.nd,h.fr⟩
theorem CyK.put {w W:World} {b0:Nat} {lv uv u:Value} {k:Nat} {G:List Nat} {es:List Dt} {xs:List Value} (h:CyK w b0 lv uv W) (hb:b0=w.heap.size) (hg:Gr W (b0+3) 58 aq u k G es xs):Cy w b0 lv u k G es xs (W.setCell ⟨b0+2,0,none⟩ u):=
 ⟨⟨h.bel.setCell (p:=⟨b0+2,0,none⟩) (by show w.heap.size≤b0+2;omega) _,h.arg.sc (by omega) _ _,h.res.other (by omega) _ _,h.out.set 0 u (by simp)⟩,hg.sc (by omega) _ _⟩
def VCy (uv lv:Value) (b0 bz p o k:Nat) (x:Pl.Bl) (ax:Option Addr) (cx:Nat) (jj:Nat) (u:Value) (W:World):Prop:=match jj with
 |0=>u=.pointer (some ⟨b0+2,0,none⟩)
 |1=>u=uv
 |2=>u=.pointer (some ⟨b0,0,none⟩)
 |3=>u=lv
 |4=>u=.int .i64 (k:Int)
 |5=>u=.pointer (some ⟨p,o+k*3,none⟩)
 |6=>u=.agg #[.string x.kind,.string x.name,.slice ax x.lines.length cx]
 |7=>∃ a c F,u=.agg #[.string x.kind,.string x.name,.slice a x.lines.length c]∧Rep W false aq F (blD x) [.string x.kind,.string x.name,.slice a x.lines.length c]∧F.Nodup∧∀ b∈F,bz≤b
 |8=>∃ q a c F,u=.slice (some ⟨q,0,none⟩) 1 1∧W.heap[q]? =some (.cells #[.string x.kind,.string x.name,.slice a x.lines.length c] 58 (0,0))∧Rep W false aq F (blD x) [.string x.kind,.string x.name,.slice a x.lines.length c]∧F.Nodup∧∀ b∈F,bz≤b
 |_=>True
theorem Hu (uv lv:Value) (b0 bz p o k:Nat) (x:Pl.Bl) (ax:Option Addr) (cx:Nat):∀ j u W W',Bel W W'→VCy uv lv b0 bz p o k x ax cx j u W→VCy uv lv b0 bz p o k x ax cx j u W':=by
 intro j u W W' hb h;match j with
 |0|1|2|3|4|5=>exact h
 |6=>
  exact h
 |7=>
  obtain⟨a,c,F,e,hr,nd,lo⟩:=h;exact⟨a,c,F,e,hr.later hb,nd,lo⟩
 |8=>
  obtain⟨q,a,c,F,e,hc,hr,nd,lo⟩:=h;exact⟨q,a,c,F,e,(hb.block q (Xh.1 hc).1).trans hc,hr.later hb,nd,lo⟩
 |n+9=>exact trivial
theorem nC (s:List Pl.Bl) (v:Value) (w:World) (h:Raw w bL [cq s] [v]) (hl:s.length≤4194304) (sK:∀ b∈s,b.lines.length≤4194304∧∀ x∈b.lines,x.ws.length≤4194304):
  Calls Tryz.prog 19 #[.agg #[v]] w (Ans ee [cq s] w):=by
 obtain⟨i0,iK,dp,eV,kD⟩:=i6 Tryz.ka;have HL:=uh h;have kB:=uh sK;obtain⟨va,vc,ev⟩:=h.aT;subst ev;clear h sK;obtain⟨n,hn⟩:∃ n,n=s.length:=⟨_,rfl⟩
 have HN:=uh hn;have O4:n≤4194304:=by omega
 have gF:s.length=n:=hn.symm;clear hn hl;rw[gF];clear gF;obtain⟨wa,aP⟩:∃ wa,wa=((w.alloc (.cells #[.slice va n vc] 26)).alloc (.cells #[.slice none 0 0] 26)).alloc (.cells #[.slice none 0 0] 26):=⟨_,rfl⟩
 obtain⟨b0,aU⟩:∃ b0,b0=w.heap.size:=⟨_,rfl⟩
 have fZ:=uh aU;have H0:Hid (Cy w b0 (.slice va n vc) (.slice none 0 0) 0 [] [] [] wa):=by
  show Cy _ _ _ _ _ _ _ _ _;refine⟨⟨?_, ?_, ?_, ?_⟩,Gr.nil _ _ _ _⟩
  ·rw[aP];exact af (af (af zR _) _) _
  ·rw[aP,aU];exact((au.new w #[.slice va n vc] _ _ rfl).eO _).eO _
  ·rw[aP,aU];exact(aA.new (w.alloc (.cells #[.slice va n vc] 26)) [.slice none 0 0] 26 _ (by simp)).later (af zR _)
  ·rw[aP,aU];exact aA.new ((w.alloc (.cells #[.slice va n vc] 26)).alloc (.cells #[.slice none 0 0] 26)) [.slice none 0 0] 26 _ (by simp)
 go_enter Tryz.func19,Tryz.ntmps19
 go_upto_region 2 with fail
 rw[← aP,← aU];clear aP aU;go_wp2;go_loopw [4] (fun vi wr=>∃ (k:Nat) (uv:Value) (G:List Nat) (xs:List Value),k≤n∧vi=.int .i64 k∧Cy w b0 (.slice va n vc) uv k G ((s.take k).flatMap blD) xs wr) (fun vi _=>n - (intOf vi).toNat)
 case atStart=>exact⟨0,_,[],[],zN,rfl,H0.out⟩
 case round=>
  obtain⟨k,uv,G,xs,hk,rfl,hO⟩:=hrel;have HO:=uh hO;obtain⟨ua,uc,sD⟩:=hO.row.shape;subst sD;clear hO H0;have x0:=HO.out.arg.get 0 _ rfl;have xl:=HO.out.arg.lt;by_cases bq:k<n
  rotate_left
  ·have jq:s.take k=s:=Xp (by have:=HN.out;omega);rw[jq]at HO;obtain rfl:k=s.length:=by have:=HN.out;omega
   clear jq;go_upto_region 6 with fail
   clear x0 xl;have lF:=HO.out.out.at_;have iO:=HO.out.out.own.lt;have qv:=HO.out.res.own.lt;have bJ:wr.there (b0+1) 0 (#[.slice ua s.length uc]:Array Value).size:=aX HO.out.res.own _ _ (by simp);obtain⟨we,aZ⟩:∃ we,we=wr.setCells (b0+1) 0 [.slice ua s.length uc]:=⟨_,rfl⟩
   have dP:we.rangeAt (b0+1) 0 [.slice ua s.length uc]:=by rw[aZ];exact World.rangeAt_setCells_same _ _ _ _ bJ
   have gT:Hid (Marks (fun b=>b=b0+1) wr we):=by show Marks _ _ _;rw[aZ];exact bf (S:=fun b=>b=b0+1) rfl _ _ _
   go_wp2_with (first|(refine wpList_load_mid rfl 26 _ rfl (b0+2) 0 rfl [.slice ua s.length uc] _ lF Tryz.underlying26 rfl (by kernel_rfl) ?_)|(refine wpList_store_mid rfl 26 _ _ rfl (b0+1) 0 #[.slice ua s.length uc] rfl rfl bJ (by kernel_rfl) (by simp[Value.oneCell']) ?_))
   first|rw[← aZ]|(simp only[Xi];rw[← aZ])
   try simp only[Act.put]
   refine bodyPost_ret (v:=.agg #[.slice ua s.length uc]) (by simp[results,Tryz.results19,asAddr,run_loadVar_mid (P:=Tryz.prog) _ _ _ 26 [.slice ua s.length uc] _ dP Tryz.underlying26 rfl (by kernel_rfl)]) rfl ?_;obtain⟨F,r,nd,fr⟩:=HO.out.row.done;refine⟨[.slice ua s.length uc],F++[],rfl,pg (r.cO gT.out fun b hb e=>by have:=fr b hb;omega),by rw[Xl];exact nd,fun b hb=> ?_,gT.out.below (fun b e=>by have:=fZ.out;omega) HO.out.bel⟩;rw[Xl]at hb;have:=fr b hb;have:=fZ.out;omega
  have eB:k<s.length:=by have:=HN.out;omega
  rcases cN (HL.out.later HO.out.bel) with⟨e0,_⟩|⟨p,o,c,hv,hp,dR,aE⟩
  ·omega
  rw[← HN.out]at hv dR;injection hv with g1 _ g3
  subst g1;subst g3;obtain⟨ax,cx,dm,dH⟩:=aE k eB;have kc:=uh (Pl.cp Pl.aG s k eB);have wR:(s.getD k Pl.aG).lines.length≤4194304∧∀ x∈(s.getD k Pl.aG).lines,x.ws.length≤4194304:=by
   have e:s.getD k Pl.aG=s[k]:=by simp[eB]
   rw[e];exact kB.out _ (Xq eB)
  obtain⟨x,hx⟩:∃ x,x=s.getD k Pl.aG:=⟨_,rfl⟩
  rw[← hx]at dm dH kc wR;have Jr:=uh (fun (X:World) (hX:Bel wr X)=>Dw x (.slice ax x.lines.length cx) X (dH.later hX) wR.1 wR.2);have cU:=uh dm;have de:=uh hp;have cZ:(0:Int)≤(k:Int):=by omega
  have dy:(k:Int)<(n:Int):=by omega
  clear hx dm dH wR hp aE dR;go_upto_region 5 with fail
  clear x0 xl;refine RY.xG wr zR (VCy (.slice ua k uc) (.slice (some ⟨p,o,none⟩) n vc) b0 wr.heap.size p o k x ax cx) (Hu _ _ _ _ _ _ _ _ _ _) (fun u W'=>∃ g cap G' xs',u=.slice (some ⟨g,0,none⟩) (k+1) cap∧CyK w b0 (.slice (some ⟨p,o,none⟩) n vc) (.slice ua k uc) W'∧Gr W' (b0+3) 58 aq u (k+1) G' ((s.take (k+1)).flatMap blD) xs') (fun u W'=>∃ g cap G' xs',u=.slice (some ⟨g,0,none⟩) (k+1) cap∧Cy w b0 (.slice (some ⟨p,o,none⟩) n vc) u (k+1) G' ((s.take (k+1)).flatMap blD) xs' W') (.pointer (some ⟨b0+2,0,none⟩)) 9 12 22 23 (by kernel_rfl) (by kernel_rfl) (by kernel_rfl) (by kernel_rfl) (by kernel_rfl) rfl (by kernel_rfl) _ _ _ rfl rfl rfl rfl rfl rfl (by kernel_rfl) (by kernel_rfl) ?_ ?_ ?_ ?_ ?_
  ·intro i o' ho iN a X hX hk hd;have z2:=(HO.out.out.later hX).get 0 _ rfl;have z0:=(HO.out.arg.later hX).get 0 _ rfl;have zl2:=(HO.out.out.later hX).own.lt;have zl0:=(HO.out.arg.later hX).lt;match i,ho with
   |0,rfl=>
    exact RY.p (.pointer (some ⟨b0+2,0,none⟩)) (by simp[execOp,go_sem,RY.K hk 3 (.pointer (some ⟨b0+2,0,none⟩))])
   |1,rfl=>
    exact RY.p (.slice ua k uc) (by simp[execOp,go_sem,RY.E1 hd 0 13,z2])
   |2,rfl=>
    exact RY.p (.pointer (some ⟨b0,0,none⟩)) (by simp[execOp,go_sem,RY.K hk 1 (.pointer (some ⟨b0,0,none⟩))])
   |3,rfl=>
    exact RY.p (.slice (some ⟨p,o,none⟩) n vc) (by simp[execOp,go_sem,RY.E1 hd 2 15,z0])
   |4,rfl=>
    exact RY.p (.int .i64 (k:Int)) (by simp[execOp,go_sem,RY.K hk 4 (.int .i64 (k:Int))])
   |5,rfl=>
    exact RY.p (.pointer (some ⟨p,o+k*3,none⟩)) (by simp[execOp,go_sem,RY.E1 hd 3 16,RY.E1 hd 4 17,cZ,dy])
   |6,rfl=>
    have e1:=hd 5 _ 18 rfl rfl ⟨⟨5,.data⟩,by simp,rfl,rfl⟩ (by decide);exact No ⟨_,X,ak 58 _ rfl p (o+k*3) e1 [.string x.kind,.string x.name,.slice ax x.lines.length cx] _ (aj cU.out de.out hX) Tryz.underlying58 rfl (by kernel_rfl),zR,rfl⟩
   |7,rfl=>
    have e19:=(RY.ai a 19).trans (hd 6 _ 19 rfl rfl ⟨⟨6,.data⟩,by simp,rfl,rfl⟩ (by decide));refine Xk ⟨43,#[.agg #[.string x.kind,.string x.name,.slice ax x.lines.length cx]],by simp[go_sem,e19],(Jr.out X hX).mono ?_⟩;rintro e W' ⟨c,F,rfl,hr,nd,lo,hb⟩;obtain⟨v1,hc,r1⟩:=lW hr.raw;subst hc;obtain⟨a1,c1,h9⟩:=r1.aT;subst h9;exact⟨_,rfl,hb,a1,c1,F,rfl,hr,nd,fun b hb=>Xg hX.size (lo b hb)⟩
   |8,rfl=>
    obtain⟨a1,c1,F,e1,hr,nd,lo⟩:=hd 7 _ 20 rfl rfl ⟨⟨7,.data⟩,by simp,rfl,rfl⟩ (by decide);have e20:=(RY.ai a 20).trans e1;exact No ⟨.slice (some ⟨X.heap.size,0,none⟩) 1 1,X.alloc (.cells #[.string x.kind,.string x.name,.slice a1 x.lines.length c1] 58),by simp[execOp,go_sem,e20],af zR _,X.heap.size,a1,c1,F,rfl,heap_alloc_new X _,hr.later (af zR _),nd,lo⟩
   |n+9,ho=>omega
  ·intro a X hX hk hd;have z2:=(HO.out.out.later hX).get 0 _ rfl;have z0:=(HO.out.arg.later hX).get 0 _ rfl;have zl2:=(HO.out.out.later hX).own.lt;have zl0:=(HO.out.arg.later hX).lt;have e0:=hd 1 _ 14 rfl rfl ⟨⟨1,.data⟩,by simp,rfl,rfl⟩ (by decide);obtain⟨q,a1,c1,FW,e1,dG,gC,nd,fr⟩:=hd 8 _ 21 rfl rfl ⟨⟨8,.data⟩,by simp,rfl,rfl⟩ (by decide);have PU:=HO.out.row.later hX;obtain⟨g,cap,X',bC,dN,pH,yY,_⟩:=run_append_lies (P:=Tryz.prog) (w:=X) 24 24 (b0+3) 58 i0 _ 3 56 Tryz.cW iK dp eV kD rfl (by decide) (.slice ua k uc) k xs PU.row ⟨q,0,none⟩ 1 1 [.string x.kind,.string x.name,.slice a1 x.lines.length c1] rfl (fun j y hy=>by rw[Addr.add_mid,Xr];simp only[World.cell?,dG];simpa using hy) (fun y hy=>gC.raw.one y hy) (by decide) (by unfold maxLen;omega) (by omega) (by have:=HO.out.out.own.lt;have:=hX.size;omega) X.heap.size rfl;have hn:∀ q,q<b0+3→(Value.slice ua k uc).ownBlock≠some q:=fun q hq e=>by have:=(aW PU.row e).1;omega
   refine⟨_,X',aQ (.tmp 14) (.tmp 21) 24 rfl e0 e1 bC,g,cap,G++FW,xs++[.string x.kind,.string x.name,.slice a1 x.lines.length c1],rfl,⟨?_, ?_, ?_, ?_⟩, ?_⟩
   ·exact dF (ae HO.out.bel hX) pH (fun b hb=>by have:=(aW PU.row hb).1;have:=fZ.out;omega)
   ·exact(HO.out.arg.later hX).grown pH (hn _ (by omega))
   ·exact(HO.out.res.later hX).grow pH (hn _ (by omega))
   ·exact(HO.out.out.later hX).grow pH (hn _ (by omega))
   ·have:=HO.out.row.push (F:=FW) hX gC nd fr (by have:=HO.out.out.own.lt;omega) dN pH zE yY;rw[kc.out,Xv,XE];exact this
  ·intro a X hk;have e3:=RY.K hk 3 (.pointer (some ⟨b0+2,0,none⟩));simp[execOp,go_sem,e3]
  ·intro a X hK hp;obtain⟨g,cap,G',xs',e1,hK,hg⟩:=hK;have t22:=(RY.ai a 22).trans e1;have t23:=(RY.ai a 23).trans hp;have z2:=hK.out.get 0 _ rfl;have zf:=hK.out.own.frozen 0;refine⟨X.setCell ⟨b0+2,0,none⟩ (.slice (some ⟨g,0,none⟩) (k+1) cap),by simp[execOp,go_sem,t22,t23,z2,zf],g,cap,G',xs',e1, ?_⟩;rw[e1]at hg ⊢;exact hK.put fZ.out hg
  ·rintro vals X hK e2;simp only[RY.aC,Act.put,so,As,An];rw[e2];generalize vals 13=s13;generalize vals 14=s14;generalize vals 15=s15;generalize vals 16=s16;generalize vals 17=s17;generalize vals 18=s18;generalize vals 19=s19;generalize vals 20=s20;generalize vals 21=s21;obtain⟨g,cap,G',xs',e1,hO⟩:=hK;rw[e1]at hO ⊢;have HN:=uh hO;clear hO e1 e2 HO;go_wp2;go_roundw
   case rel=>exact⟨k+1,_,G',xs',by omega,by go_num,HN.out⟩
   case measure=>simp[intOf];omega
namespace RY
def EC (v:World) (t:TypeId) (size:Nat) (W:World) (r u:Value) (n:Nat) (xs:List Value) (W':World):Prop:=W'.ownsRow v.heap.size t size u n xs∧W.grownBy W' r.ownBlock∧(u.ownBlock=r.ownBlock∨u.ownBlock=some W.heap.size)
structure TI (v:World) (t:TypeId) (size n5 n8 n13:Nat) (x5 x8 x13:List Value) (nw:Array Value) (K:Value→World→Prop) (u0 u5 u7 u8 u13 u15:Bool) (v0 v5 v7 v8 v13:Value) (W:World):Prop where
 bel:u15=false→Bel v W
 c0:u0=true→u5=false→W.ownsRow v.heap.size t size v0 0 []
 c5:u5=true→u8=false→W.ownsRow v.heap.size t size v5 n5 x5
 c8:u8=true→u13=false→W.ownsRow v.heap.size t size v8 n8 x8
 c13:u13=true→u15=false→W.ownsRow v.heap.size t size v13 n13 x13
 c7:u7=true→u8=false→∃ q,v7=.slice (some ⟨q,0,none⟩) 1 1∧W.heap[q]? =some (.cells nw t (0,0))∧(u0=true→u5=false→v0.ownBlock≠some q)∧(u5=true→v5.ownBlock≠some q)
 c15:u15=true→K v13 W
theorem vQ {v W W':World} {t:TypeId} {size n m:Nat} {r u:Value} {xs ys:List Value} (h:Bel v W) (ho:W.ownsRow v.heap.size t size r m ys) (ha:EC v t size W r u n xs W'):Bel v W':=
 dF h ha.2.1 fun _ hb=>(aW ho hb).1
theorem Gi {W W':World} {row:Option Nat} {q:Nat} {o:Obj} (hg:W.grownBy W' row) (hq:W.heap[q]? =some o) (hn:row≠some q):W'.heap[q]? =some o:=
 (hg.block q (Xh.1 hq).1 fun e=>hn e.symm).trans hq
theorem jR {P:Program} {id:Nat} {Q:Exit→Act→World→Prop} {a0:Act} {w:World} {l:List Oper} (v:World) (hv:Bel v w) (t:TypeId) (size n5 n8 n13:Nat) (x5 x8 x13:List Value) (nw:Array Value) (V:Nat→Value→Prop) (K:Value→World→Prop) (fuel k0 k5 k7 k8 k13 k14:Nat)
  (hm:P.follows .mixedOrders=true) (hasc:asc .any l.toArray=true) (hap:ek l=true) (eH:eN l a0.tmps.size=true)
  (hclo:((List.range 15).all fun i=>(clo l fuel [15]).contains i)=true) (hlen:l.length=16) (km:((l.take 15).all fun o=>o.dst.isSome)=true)
  (o0 o5 o7 o8 o13 o14 o15:Oper) (q0:l[0]? =some o0) (q5:l[5]? =some o5) (q7:l[7]? =some o7) (q8:l[8]? =some o8) (q13:l[13]? =some o13) (q14:l[14]? =some o14) (q15:l[15]? =some o15)
  (d0:o0.dst=some k0) (d5:o5.dst=some k5) (d7:o7.dst=some k7) (d8:o8.dst=some k8) (d13:o13.dst=some k13) (d14:o14.dst=some k14) (d15:o15.dst=none)
  (w5:waits l 5 0=true) (w8:waits l 8 5=true) (w87:waits l 8 7=true) (sw:waits l 13 8=true) (ze:waits l 15 13=true) (AI:waits l 15 14=true)
  (hVT:∀ i u,i=0∨i=5∨i=7∨i=8∨i=13→V i u)
  (ij:∀ (i:Nat) (o:Oper),l[i]? =some o→i≠0→i≠5→i≠7→i≠8→i≠13→i≠15→∀ (a:Act) (W:World),Bel v W→(∀ k,ew l k=true→a.eval (.tmp k)=a0.eval (.tmp k))→
   (∀ (j:Nat) (o':Oper) (k:Nat),l[j]? =some o'→o'.dst=some k→(∃ e∈o.after,e.on=j∧Region.binds .any e=true)→V j (a.eval (.tmp k)))→∃ u,(execOp a.eval o).run P W=.ok (.value u) W∧V i u)
  (h0:∀ (a:Act) (W:World),(execOp a.eval o0).run P W=.ok (.value (.slice (some ⟨W.heap.size,0,none⟩) 0 0)) (W.alloc (.cells #[] t)))
  (h7:∀ (a:Act) (W:World),(∀ (j:Nat) (o':Oper) (k:Nat),l[j]? =some o'→o'.dst=some k→(∃ e∈o7.after,e.on=j∧Region.binds .any e=true)→V j (a.eval (.tmp k)))→(execOp a.eval o7).run P W=.ok (.value (.slice (some ⟨W.heap.size,0,none⟩) 1 1)) (W.alloc (.cells nw t)))
  (h5:∀ (a:Act) (W:World),Bel v W→(∀ (j:Nat) (o':Oper) (k:Nat),l[j]? =some o'→o'.dst=some k→(∃ e∈o5.after,e.on=j∧Region.binds .any e=true)→V j (a.eval (.tmp k)))→W.ownsRow v.heap.size t size (a.eval (.tmp k0)) 0 []→∃ u W',(execOp a.eval o5).run P W=.ok (.value u) W'∧EC v t size W (a.eval (.tmp k0)) u n5 x5 W')
  (h8:∀ (a:Act) (W:World),Bel v W→W.ownsRow v.heap.size t size (a.eval (.tmp k5)) n5 x5→∀ q,a.eval (.tmp k7)=.slice (some ⟨q,0,none⟩) 1 1→W.heap[q]? =some (.cells nw t (0,0))→∃ u W',(execOp a.eval o8).run P W=.ok (.value u) W'∧EC v t size W (a.eval (.tmp k5)) u n8 x8 W')
  (h13:∀ (a:Act) (W:World),Bel v W→(∀ (j:Nat) (o':Oper) (k:Nat),l[j]? =some o'→o'.dst=some k→(∃ e∈o13.after,e.on=j∧Region.binds .any e=true)→V j (a.eval (.tmp k)))→W.ownsRow v.heap.size t size (a.eval (.tmp k8)) n8 x8→∃ u W',(execOp a.eval o13).run P W=.ok (.value u) W'∧EC v t size W (a.eval (.tmp k8)) u n13 x13 W')
  (h15:∀ (a:Act) (W:World),Bel v W→V 14 (a.eval (.tmp k14))→W.ownsRow v.heap.size t size (a.eval (.tmp k13)) n13 x13→∃ W',(execOp a.eval o15).run P W=.ok .skip W'∧K (a.eval (.tmp k13)) W')
  (hend:∀ (vs:Nat→Value) (W:World),K (vs k13) W→Q .normal (aC l a0 vs) W):
  (Code.region id l.toArray true).wp P Q a0 w:=by
 have fk:∀ {i:Nat} {o:Oper},l[i]? =some o→i<15→o.dst.isSome=true:=fun h hi=>by
  rw[Xu]at km;exact km _ (Xx ((XM hi).trans h))
 refine lA V (fun up vals W=>TI v t size n5 n8 n13 x5 x8 x13 nw K (up 0) (up 5) (up 7) (up 8) (up 13) (up 15) (vals 0) (vals 5) (vals 7) (vals 8) (vals 13) W) hm hasc hap eH ?_ ?_ ?_
 ·intro vals;exact⟨fun _=>XF hv,fun h=>(by cases h),fun h=>(by cases h),fun h=>(by cases h),fun h=>(by cases h),fun h=>(by cases h),fun h=>(by cases h)⟩
 ·intro up vals i o ho hi fT a W hk hd hT;have qp:∀ k,ew l k=true→a.eval (.tmp k)=a0.eval (.tmp k):=fun k h=>hk k fun j o' hj hj'=>absurd hj' (mD h hj);have lZ:∀ (j:Nat) (o':Oper) (k:Nat),l[j]? =some o'→o'.dst=some k→(∃ e∈o.after,e.on=j∧Region.binds .any e=true)→V j (a.eval (.tmp k)):=fun j o' k hj iP hw=>by
   obtain⟨_,q2,q3⟩:=hd j o' k hj iP hw;rw[q2];exact q3
  have dn:∀ {x y:Nat} {ox:Oper},l[x]? =some ox→waits l x y=true→up x=true→up y=true:=fun hx hw hu=>by
   obtain⟨e,he,h4,h5⟩:=bj hw hx;have:=fT _ _ e hx he h5 hu;rwa [h4]at this
  have Cn:=dn q5 w5;have Qh:=dn q8 w8;have VV:=dn q8 w87;have Io:=dn q13 sw;have s1513:=dn q15 ze;have uL:i<16:=by rw[← hlen];exact(Xn.1 ho).1
  have WO:i≠15→up 15=false:=fun hn=>by
   cases e:up 15
   ·rfl
   ·rw[Xu]at hclo;have:=hclo i (XV.2 (by omega));rw[YI]at this;rw[gV fT fuel [15] (by simpa using e) i this]at hi;cases hi
  by_cases i15:i=15
  ·subst i15;obtain rfl:o=o15:=Option.some.inj (ho.symm.trans q15);obtain⟨u13,e13,_⟩:=hd 13 o13 k13 q13 d13 (by obtain⟨e,he,h4,h5⟩:=bj ze q15;exact⟨e,he,h4,h5⟩);obtain⟨u14,e14,g14⟩:=hd 14 o14 k14 q14 d14 (by obtain⟨e,he,h4,h5⟩:=bj AI q15;exact⟨e,he,h4,h5⟩);obtain⟨W',hr,hK⟩:=h15 a W (hT.bel hi) (by rw[e14];exact g14) (by rw[e13];exact hT.c13 u13 hi);have u8:=Io u13;have u5:=Qh u8;refine Xk (No ⟨W',hr,d15, ?_⟩);show TI v t size n5 n8 n13 x5 x8 x13 nw K (up 0) (up 5) (up 7) (up 8) (up 13) true (vals 0) (vals 5) (vals 7) (vals 8) (vals 13) W';rw[e13]at hK;exact⟨fun h=>(by cases h),fun _ h=>(by rw[u5]at h;cases h),fun _ h=>(by rw[u8]at h;cases h),fun _ h=>(by rw[u13]at h;cases h),fun _ h=>(by cases h),fun _ h=>(by rw[u8]at h;cases h),fun _=>hK⟩
  have f15:=WO i15;have hB:=hT.bel f15;have PZ:=fk ho (by omega);by_cases i0:i=0
  ·subst i0;obtain rfl:o=o0:=Option.some.inj (ho.symm.trans q0);have f5:up 5=false:=by cases e:up 5;rfl;rw[Cn e]at hi;cases hi
   have f8:up 8=false:=by cases e:up 8;rfl;rw[Qh e]at f5;cases f5
   have f13:up 13=false:=by cases e:up 13;rfl;rw[Io e]at f8;cases f8
   refine No ⟨_,_,h0 a W,PZ,hVT 0 _ (No rfl), ?_⟩;show TI v t size n5 n8 n13 x5 x8 x13 nw K true (up 5) (up 7) (up 8) (up 13) (up 15) (.slice (some ⟨W.heap.size,0,none⟩) 0 0) (vals 5) (vals 7) (vals 8) (vals 13) (W.alloc (.cells #[] t));refine⟨fun _=>af hB _,fun _ _=>World.ownsRow_made W #[] 0 hB.size (by decide) (by simp),fun h=> ?_,fun h=> ?_,fun h=> ?_,fun h h'=> ?_,fun h=> ?_⟩
   ·rw[f5]at h;cases h
   ·rw[f8]at h;cases h
   ·rw[f13]at h;cases h
   ·obtain⟨q,e1,e2,_,_⟩:=hT.c7 h h';have hq:=(Xh.1 e2).1;refine⟨q,e1,((af (Below.refl W.heap.size W) _:Bel W (W.alloc (.cells #[] t))).block q hq).trans e2,fun _ _ e=> ?_,fun h=> ?_⟩
    ·have:W.heap.size=q:=by injection e
     omega
    ·rw[f5]at h;cases h
   ·rw[f15]at h;cases h
  by_cases i7:i=7
  ·subst i7;obtain rfl:o=o7:=Option.some.inj (ho.symm.trans q7);have f8:up 8=false:=by cases e:up 8;rfl;rw[VV e]at hi;cases hi
   have f13:up 13=false:=by cases e:up 13;rfl;rw[Io e]at f8;cases f8
   have oW:Bel W (W.alloc (.cells nw t)):=af zR _;refine No ⟨_,_,h7 a W lZ,PZ,hVT 7 _ (by omega), ?_⟩;show TI v t size n5 n8 n13 x5 x8 x13 nw K (up 0) (up 5) true (up 8) (up 13) (up 15) (vals 0) (vals 5) (.slice (some ⟨W.heap.size,0,none⟩) 1 1) (vals 8) (vals 13) (W.alloc (.cells nw t));refine⟨fun _=>ae hB oW,fun h h'=>cD (hT.c0 h h') oW,fun h h'=>cD (hT.c5 h h') oW,fun h=> ?_,fun h=> ?_,fun _ _=>⟨W.heap.size,rfl,heap_alloc_new W _,fun h h' e=> ?_,fun h e=> ?_⟩,fun h=> ?_⟩
   ·rw[f8]at h;cases h
   ·rw[f13]at h;cases h
   ·have:=(aW (hT.c0 h h') e).2;omega
   ·have:=(aW (hT.c5 h f8) e).2;omega
   ·rw[f15]at h;cases h
  by_cases i5:i=5
  ·subst i5;obtain rfl:o=o5:=Option.some.inj (ho.symm.trans q5);obtain⟨u0,e0,_⟩:=hd 0 o0 k0 q0 d0 (by obtain⟨e,he,h4,h5⟩:=bj w5 q5;exact⟨e,he,h4,h5⟩);have f8:up 8=false:=by cases e:up 8;rfl;rw[Qh e]at hi;cases hi
   have f13:up 13=false:=by cases e:up 13;rfl;rw[Io e]at f8;cases f8
   have c0:=hT.c0 u0 hi;obtain⟨u,W',hr,hA⟩:=h5 a W hB lZ (by rw[e0];exact c0);rw[e0]at hA;refine No ⟨u,W',hr,PZ,hVT 5 _ (by omega), ?_⟩;show TI v t size n5 n8 n13 x5 x8 x13 nw K (up 0) true (up 7) (up 8) (up 13) (up 15) (vals 0) u (vals 7) (vals 8) (vals 13) W';refine⟨fun _=>vQ hB c0 hA,fun _ h=>(by cases h),fun _ _=>hA.1,fun h=> ?_,fun h=> ?_,fun h h'=> ?_,fun h=> ?_⟩
   ·rw[f8]at h;cases h
   ·rw[f13]at h;cases h
   ·obtain⟨q,e1,e2,e3,_⟩:=hT.c7 h h';have n0:=e3 u0 hi;refine⟨q,e1,Gi hA.2.1 e2 n0,fun _ h=>(by cases h),fun _ e=> ?_⟩;rcases hA.2.2 with g|g
    ·exact n0 (g ▸ e)
    ·rw[g]at e;have:=(Xh.1 e2).1;injection e with e;omega
   ·rw[f15]at h;cases h
  by_cases i8:i=8
  ·subst i8;obtain rfl:o=o8:=Option.some.inj (ho.symm.trans q8);obtain⟨u5,e5,_⟩:=hd 5 o5 k5 q5 d5 (by obtain⟨e,he,h4,h5⟩:=bj w8 q8;exact⟨e,he,h4,h5⟩);obtain⟨u7,e7,_⟩:=hd 7 o7 k7 q7 d7 (by obtain⟨e,he,h4,h5⟩:=bj w87 q8;exact⟨e,he,h4,h5⟩);have f13:up 13=false:=by cases e:up 13;rfl;rw[Io e]at hi;cases hi
   have c5:=hT.c5 u5 hi;obtain⟨q,e1,e2,_,_⟩:=hT.c7 u7 hi;obtain⟨u,W',hr,hA⟩:=h8 a W hB (by rw[e5];exact c5) q (by rw[e7];exact e1) e2;rw[e5]at hA;refine No ⟨u,W',hr,PZ,hVT 8 _ (by omega), ?_⟩;show TI v t size n5 n8 n13 x5 x8 x13 nw K (up 0) (up 5) (up 7) true (up 13) (up 15) (vals 0) (vals 5) (vals 7) u (vals 13) W';refine⟨fun _=>vQ hB c5 hA,fun _ h=>(by rw[u5]at h;cases h),fun _ h=>(by cases h),fun _ _=>hA.1,fun h=> ?_,fun _ h=>(by cases h),fun h=> ?_⟩
   ·rw[f13]at h;cases h
   ·rw[f15]at h;cases h
  by_cases i13:i=13
  ·subst i13;obtain rfl:o=o13:=Option.some.inj (ho.symm.trans q13);obtain⟨u8,e8,_⟩:=hd 8 o8 k8 q8 d8 (by obtain⟨e,he,h4,h5⟩:=bj sw q13;exact⟨e,he,h4,h5⟩);have u5:=Qh u8;have c8:=hT.c8 u8 hi;obtain⟨u,W',hr,hA⟩:=h13 a W hB lZ (by rw[e8];exact c8);rw[e8]at hA;refine No ⟨u,W',hr,PZ,hVT 13 _ (by omega), ?_⟩;show TI v t size n5 n8 n13 x5 x8 x13 nw K (up 0) (up 5) (up 7) (up 8) true (up 15) (vals 0) (vals 5) (vals 7) (vals 8) u W';refine⟨fun _=>vQ hB c8 hA,fun _ h=>(by rw[u5]at h;cases h),fun _ h=>(by rw[u8]at h;cases h),fun _ h=>(by cases h),fun _ _=>hA.1,fun _ h=>(by rw[u8]at h;cases h),fun h=> ?_⟩;rw[f15]at h;cases h
  obtain⟨u,hr,hu⟩:=ij i o ho i0 i5 i7 i8 i13 i15 a W hB qp lZ;refine No ⟨u,W,hr,PZ,hu, ?_⟩;have e:∀ c,c≠i→((c==i)||up c)=up c:=fun c hc=>by simp[hc]
  have e':∀ c,c≠i→(if c=i then u else vals c)=vals c:=fun c hc=>if_neg hc;show TI v t size n5 n8 n13 x5 x8 x13 nw K ((0==i)||up 0) ((5==i)||up 5) ((7==i)||up 7) ((8==i)||up 8) ((13==i)||up 13) ((15==i)||up 15) (if 0=i then u else vals 0) (if 5=i then u else vals 5) (if 7=i then u else vals 7) (if 8=i then u else vals 8) (if 13=i then u else vals 13) W;rw[e 0 (Ne.symm i0),e 5 (Ne.symm i5),e 7 (Ne.symm i7),e 8 (Ne.symm i8),e 13 (Ne.symm i13),e 15 (Ne.symm i15),e' 0 (Ne.symm i0),e' 5 (Ne.symm i5),e' 7 (Ne.symm i7),e' 8 (Ne.symm i8),e' 13 (Ne.symm i13)];exact hT
 ·intro up vals vs W sN bn hT;refine hend vs W ?_;rw[(bn 13 o13 k13 q13 d13).1];exact hT.c15 (sN 15 (by omega))
end RY
def Lst (v:World) (size:Nat) (s:Value) (m:Nat) (news:List Value):Prop:=
 (s=.slice none 0 0∧m=0∧news=[])∨(∃ ad c,s=.slice (some ad) 0 c∧m=0∧news=[])∨∃ p o c,s=.slice (some ⟨p,o,none⟩) m c∧p<v.heap.size∧v.rangeAt p o news∧news.length=m*size∧∀ u∈news,u.oneCell'=true
theorem iU {P:Program} {v W:World} (t ty e:TypeId) (i:TypeInfo) (z:Value) (size bytes:Nat) (ht:P.underlying t=some (.slice e)) (hi:P.info? e=some i) (hz:i.zero=some z) (hs:i.size=size) (eS:i.bytes=bytes) (Av:z.cells.size=size) (hs0:0<size)
  {s:Value} {m:Nat} {news:List Value} (h:Lst v size s m news) (hB:Bel v W) {r:Value} {n:Nat} {xs:List Value} (ho:W.ownsRow v.heap.size e size r n xs) (DU:n+m≤maxLen) (hb:(n+m)*bytes≤140737488355328):
  ∃ u W',(Builtin.append_ #[t,t] ty #[r,s]).run P W=.ok u W'∧RY.EC v e size W r u (n+m) (xs++news) W':=by
 rcases h with⟨rfl,rfl,rfl⟩|⟨ad,c,rfl,rfl,rfl⟩|⟨p,o,c,rfl,hp,hr,hl,h1⟩
 ·refine⟨r,W,run_append_owned_none (P:=P) (w:=W) v.heap.size t ty e i size ht hi r n xs ho, ?_,⟨rfl,rfl,rfl,zE,fun _ _ _=>rfl⟩,No rfl⟩;rw[Xl];exact ho
 ·obtain⟨u,W',hr,h2,h3,_,h5⟩:=run_append_own_at (P:=P) W v.heap.size t ty e i z size bytes ht hi hz hs eS Av hs0 r n xs ho ad 0 c [] (by simp) (fun j u h=>by simp at h) (fun u h=>by cases h) DU hb hB.size;exact⟨u,W',hr,h2,h3,h5⟩
 ·obtain⟨u,W',hr,h2,h3,_,h5⟩:=run_append_own_at (P:=P) W v.heap.size t ty e i z size bytes ht hi hz hs eS Av hs0 r n xs ho ⟨p,o,none⟩ m c news hl (fun j u h=>by rw[Addr.add_mid];exact aj hr hp hB j u h) h1 DU hb hB.size;exact⟨u,W',hr,h2,h3,h5⟩
theorem qm {P:Program} {v:World} {t e:TypeId} {i:TypeInfo} {sh:List Sh} {F:List Nat} {n:Nat} {es:List Dt} {lv:Value} (ht:P.underlying t=some (.slice (P.elem t))) (hi:P.info? (P.elem t)=some i) (hs:i.size=sh.length) (h:Rep v false [.row e sh] F [.row n es] [lv]) (k:Nat) (hk:k≤n):
  ∃ s1 s2 vs G,Rep v false (bF n sh) G es vs∧(∀ b∈G,b∈F)∧Lst v sh.length s1 k (vs.take (k*sh.length))∧Lst v sh.length s2 (n - k) (vs.drop (k*sh.length))∧
   (∀ W,(Instr.slice t lv none (some (.int .i64 (k:Int))) none).run P W=.ok s1 W)∧(∀ W,(Instr.slice t lv (some (.int .i64 (k:Int))) none none).run P W=.ok s2 W):=by
 rcases h.slice with⟨_,rfl,rfl,rfl,a,rfl⟩|⟨p,o,c,u,m,G,rfl,rfl,hn,ho,_,_,vs,hr,hR⟩
 ·obtain rfl:k=0:=by omega
  refine⟨.slice a 0 0,.slice a 0 0,[],[],by rw[ff];exact .nil,by simp, ?_, ?_,fun W=> ?_,fun W=> ?_⟩
  ·cases a with
   |none=>exact No ⟨rfl,rfl,by simp⟩
   |some ad=>exact Xk (No ⟨ad,0,rfl,rfl,by simp⟩)
  ·cases a with
   |none=>exact No ⟨rfl,rfl,by simp⟩
   |some ad=>exact Xk (No ⟨ad,0,rfl,rfl,by simp⟩)
  ·rw[run_slice_h (P:=P) (w:=W) (t:=t) (a:=a) (len:=0) (cap:=0) ht .i64 ((0:Nat):Int) (by omega) (by omega)];simp[sizeOf,typeInfo,hi,sliced]
  ·rw[run_slice_l (P:=P) (w:=W) (t:=t) (a:=a) (len:=0) (cap:=0) ht .i64 ((0:Nat):Int) (by omega) (by omega)];simp[sizeOf,typeInfo,hi,sliced]
 ·have hl:vs.length=n*sh.length:=by rw[hR.len,bU]
  have Ew:k*sh.length≤n*sh.length:=XJ _ hk;have e1:vs=vs.take (k*sh.length)++vs.drop (k*sh.length):=(YK _ _).symm;have jO:v.rangeAt p o (vs.take (k*sh.length)):=by rw[e1]at hr;exact(gU hr).1
  have k4:v.rangeAt p (o+k*sh.length) (vs.drop (k*sh.length)):=by
   have h2:v.rangeAt p o (vs.take (k*sh.length)++vs.drop (k*sh.length)):=by rw[← e1];exact hr
   have:=(gU h2).2;rwa [Xo,Nat.min_eq_left (by omega)]at this
  refine⟨.slice (some ⟨p,o,none⟩) k c,.slice (some (if c=k then ⟨p,o,none⟩ else ⟨p,o+k*sh.length,none⟩)) (n - k) (c - k),vs,G,hR,fun b hb=>by simp[hb],Xk (Xk ⟨p,o,c,rfl,ho.lt,jO,by rw[Xo];omega,fun u hu=>hR.raw.one u (List.mem_of_mem_take hu)⟩), ?_,fun W=> ?_,fun W=> ?_⟩
  ·by_cases MR:c=k
   ·have P5:n=k:=by omega
    refine Xk (No ⟨⟨p,o,none⟩,c - k,by rw[if_pos MR];simp[P5],by omega, ?_⟩);rw[Xz (by rw[hl,P5];exact zE)]
   ·exact Xk (Xk ⟨p,o+k*sh.length,c - k,by rw[if_neg MR],ho.lt,k4,by rw[Xy,hl,Nat.sub_mul],fun u hu=>hR.raw.one u (Ys hu)⟩)
  ·rw[run_slice_h (P:=P) (w:=W) (t:=t) (a:=some ⟨p,o,none⟩) (len:=n) (cap:=c) ht .i64 (k:Int) (by omega) (by omega)];simp[sizeOf,typeInfo,hi,sliced,Addr.add_mid]
  ·rw[run_slice_l (P:=P) (w:=W) (t:=t) (a:=some ⟨p,o,none⟩) (len:=n) (cap:=c) ht .i64 (k:Int) (by omega) (by omega)];by_cases MR:c=k<;>simp[sizeOf,typeInfo,hi,sliced,hs,MR,Addr.add_mid]
theorem qg {α:Type} {v:World} {sh:List Sh} (f:α→List Dt) (hf:∀ x,(f x).length=sh.length) {l:List α} {k:Nat} (hk:k≤l.length) {G Fx:List Nat} {vs cx:List Value} {x:α} (h:Rep v false (bF l.length sh) G (l.flatMap f) vs) (hx:Rep v false sh Fx (f x) cx):
  ∃ G',Rep v false (bF (l.length+1) sh) G' ((l.take k++x::l.drop k).flatMap f) (vs.take (k*sh.length)++cx++vs.drop (k*sh.length))∧∀ b∈G',b∈G∨b∈Fx:=by
 have e1:bF l.length sh=bF k sh++bF (l.length - k) sh:=by rw[← gH];congr 1;omega
 rw[e1]at h;obtain⟨F1,F2,d1,d2,c1,c2,rfl,hd,rfl,h1,h2⟩:=Rep.cut _ h;have pc:d1.length=k*sh.length:=by rw[h1.raw.typ.len,bU]
 have AV:c1.length=k*sh.length:=by rw[h1.len,bU]
 have ht:((l.take k).flatMap f).length=k*sh.length:=by rw[jx f _ hf,Xo,Nat.min_eq_left hk]
 have hs:l.flatMap f=(l.take k).flatMap f++(l.drop k).flatMap f:=by rw[← Xv,YK]
 obtain⟨g1,g2⟩:=List.append_inj (hd.symm.trans hs) (by rw[pc,ht]);subst g1;subst g2;refine⟨F1++(Fx++F2), ?_,fun b hb=> ?_⟩
 ·have e2:bF (l.length+1) sh=bF k sh++(sh++bF (l.length - k) sh):=by rw[← dk,← gH];congr 1;omega
  have e3:(c1++c2).take (k*sh.length)=c1:=by rw[← AV];simp
  have e4:(c1++c2).drop (k*sh.length)=c2:=by rw[← AV];simp
  rw[e2,e3,e4,Xv,XP,XG];exact h1.app (hx.app h2)
 ·simp only[XC]at hb ⊢;rcases hb with hb|hb|hb
  ·exact No (No hb)
  ·exact Xk hb
  ·exact No (Xk hb)
theorem ye {W:World} {lo:Nat} {t:TypeId} {sh:List Sh} {v:Value} {n:Nat} {G:List Nat} {es:List Dt} {xs:List Value} (h:W.ownsRow lo t sh.length v n xs) (hr:Rep W false (bF n sh) G es xs):∃ F,Rep W false [.row t sh] F [.row n es] [v]∧∀ b∈F,lo≤b∨b∈G:=by
 rcases h.2 with⟨rfl,rfl⟩|⟨g,cap,cur,rfl,q2,q3,q4,q5,q6,q7⟩
 ·rw[ff]at hr;cases hr
  exact⟨[],.emp _ _ none rfl .nil,by simp⟩
 ·refine⟨g::(G++[]),.row t sh g 0 n cap t (cap*sh.length) xs es G ⟨cur,q3,q6⟩ (by omega) (by simp) ⟨Xg q4 q5,q4⟩ ?_ hr .nil, ?_⟩
  ·intro j x hx;rw[← q7]at hx;have hl:j<n*sh.length:=by have:=(Xn.1 hx).1;rw[Xo]at this;omega
   rw[XM hl]at hx;rw[Xr];simp only[World.cell?,q3];simpa using hx
  ·intro b hb;rw[Xl]at hb;rcases XD.1 hb with rfl|hb
   ·exact No q2
   ·exact Xk hb
theorem Tryz.mu:Tryz.prog.elem 35=41:=by kernel_rfl
theorem Tryz.fg:Tryz.prog.underlying 35=some (.slice (Tryz.prog.elem 35)):=by rw[Tryz.mu];exact Tryz.cI
structure Pt (w:World) (b0:Nat) (kd nm:ByteArray) (lv:Value) (xs:List Value) (W:World):Prop where
 bel:Bel w W
 box:aA W b0 58 [.string kd,.string nm,lv]
 arg:au W (b0+1) xs
 res:aA W (b0+2) 58 [.string {data:=#[]},.string {data:=#[]},.slice none 0 0]
theorem Pt.later {w W W':World} {b0:Nat} {kd nm:ByteArray} {lv:Value} {xs:List Value} (h:Pt w b0 kd nm lv xs W) (hb:Bel W W'):Pt w b0 kd nm lv xs W':=⟨ae h.bel hb,h.box.later hb,h.arg.later hb,h.res.later hb⟩
structure PtK (w:World) (b0:Nat) (kd nm:ByteArray) (n:Nat) (u:Value) (G:List Nat) (es:List Dt) (xs:List Value) (W:World):Prop where
 form:∃ g cap,u=.slice (some ⟨g,0,none⟩) (n+1) cap
 bel:Bel w W
 box:aA W b0 58 [.string kd,.string nm,u]
 res:aA W (b0+2) 58 [.string {data:=#[]},.string {data:=#[]},.slice none 0 0]
 row:W.ownsRow (b0+3) 41 2 u (n+1) xs
 rep:Rep W false (bF (n+1) ao) G es xs
theorem qD {W:World} {lo lo' e size n:Nat} {v:Value} {xs:List Value} (h:W.ownsRow lo e size v n xs) (hl:lo'≤lo):W.ownsRow lo' e size v n xs:=by
 refine⟨h.1,h.2.imp id ?_⟩;rintro⟨g,cap,cur,h1,h2,h3⟩;exact⟨g,cap,cur,h1,Xg hl h2,h3⟩
theorem PtK.mk' {w Y:World} {b0 lo n g cap:Nat} {kd nm:ByteArray} {lv:Value} {G:List Nat} {es:List Dt} {xs ys:List Value} (hb:b0=w.heap.size) (h:Pt w b0 kd nm lv ys Y) (cX:b0+3≤lo) (ho:Y.ownsRow lo 41 2 (.slice (some ⟨g,0,none⟩) (n+1) cap) (n+1) xs) (hr:Rep Y false (bF (n+1) ao) G es xs) (hG:∀ b∈G,b<b0):
  PtK w b0 kd nm n (.slice (some ⟨g,0,none⟩) (n+1) cap) G es xs (Y.setCell ⟨b0,2,none⟩ (.slice (some ⟨g,0,none⟩) (n+1) cap)):=by
 have hm:Marks (fun b=>b=b0) Y (Y.setCell ⟨b0,2,none⟩ (.slice (some ⟨g,0,none⟩) (n+1) cap)):=Marks.sc (S:=fun b=>b=b0) Y rfl 2 _;exact⟨⟨g,cap,rfl⟩,hm.below (fun b e=>by omega) h.bel,h.box.set 2 _ (by simp),h.res.other (by omega) _ _,fV (qD ho cX) hm fun b hb e=>by omega,hr.cO hm fun b hb e=>by have:=hG b hb;omega⟩
def Ha (sh:List Sh) (A:List Dt) (F:Nat→Prop) (W:World) (e:Ending) (w':World):Prop:=∃ c F',e=.returned (.agg c.toArray)∧Rep w' false sh F' A c∧(∀ b∈F',F b∨W.heap.size≤b)∧Bel W w'
theorem PtK.ans {w W we:World} {b0 n g cap:Nat} {kd nm:ByteArray} {G:List Nat} {l:List Pl.Ln} {xs:List Value} {S:Nat→Prop} (h:PtK w b0 kd nm n (.slice (some ⟨g,0,none⟩) (n+1) cap) G (l.flatMap lnD) xs W) (hb:b0=w.heap.size) (hm:Marks (fun b=>b=b0+2) W we) (hG:∀ b∈G,b<b0) (hl:l.length=n+1) (hS:∀ b∈G,S b):
  Ha aq (blD ⟨kd,nm,l⟩) S w (.returned (.agg #[.string kd,.string nm,.slice (some ⟨g,0,none⟩) (n+1) cap])) we:=by
 obtain⟨F,r,hF⟩:=ye (sh:=ao) (fV h.row hm fun b hb e=>by omega) (h.rep.cO hm fun b hb e=>by have:=hG b hb;omega);refine⟨[.string kd,.string nm,.slice (some ⟨g,0,none⟩) (n+1) cap],F++[],rfl, ?_,fun b hb=> ?_,hm.below (fun b e=>by omega) h.bel⟩
 ·unfold blD bD;rw[hl];exact cT kd nm r
 ·rw[Xl]at hb;rcases hF b hb with q|q
  ·exact Xk (by omega)
  ·exact No (hS b q)
def VIn (lv s1 s2:Value) (k b0:Nat) (X:Array Value):Nat→Value→Prop
 |1,u|9,u|14,u=>u=.pointer (some ⟨b0,2,none⟩)
 |2,u|10,u=>u=lv
 |3,u|11,u=>u=.int .i64 (k:Int)
 |4,u=>u=s1
 |6,u=>u=.agg X
 |12,u=>u=s2
 |_,_=>True
def VPa (va:Option Addr) (vc:Nat) (n:Nat) (k:Nat) (b0:Nat) (jj:Nat) (u:Value) (_:World):Prop:=match jj with
 |0=>u=.int .i64 (k:Int)
 |1=>u=.pointer (some ⟨b0,2,none⟩)
 |2=>u=.slice va n vc
 |3=>u=.int .i64 (n:Int)
 |4|5|15=>u=.bool false
 |6|7|8|9|10|11|12|13|14=>u=undef
 |_=>True
theorem Hf (va:Option Addr) (vc:Nat) (n:Nat) (k:Nat) (b0:Nat):∀ jj u W W',Bel W W'→VPa va vc n k b0 jj u W→VPa va vc n k b0 jj u W':=fun _ _ _ _ _ h=>h
def VPb (b:Pl.Bl) (x:Pl.Ln) (y:Pl.Ln) (va:Option Addr) (xa:Option Addr) (ya:Option Addr) (vc:Nat) (xc:Nat) (yc:Nat) (p:Nat) (o:Nat) (n:Nat) (k:Nat) (b0:Nat) (jj:Nat) (u:Value) (_:World):Prop:=match jj with
 |0|10=>u=.int .i64 (k:Int)
 |1|8=>u=.pointer (some ⟨b0,2,none⟩)
 |2|9=>u=.slice va n vc
 |3=>u=.int .i64 (n:Int)
 |4|5|14|15=>u=.bool true
 |6=>u=.pointer (some ⟨b0,0,none⟩)
 |7=>u=.string b.kind
 |11=>u=.pointer (some ⟨p,o+k*2,none⟩)
 |12=>u=.agg #[.string y.key,.slice ya y.ws.length yc]
 |13=>u=.agg #[.string x.key,.slice xa x.ws.length xc]
 |_=>True
theorem Gv (b:Pl.Bl) (x:Pl.Ln) (y:Pl.Ln) (va:Option Addr) (xa:Option Addr) (ya:Option Addr) (vc:Nat) (xc:Nat) (yc:Nat) (p:Nat) (o:Nat) (n:Nat) (k:Nat) (b0:Nat):∀ jj u W W',Bel W W'→VPb b x y va xa ya vc xc yc p o n k b0 jj u W→VPb b x y va xa ya vc xc yc p o n k b0 jj u W':=fun _ _ _ _ _ h=>h
def VPc (b:Pl.Bl) (x:Pl.Ln) (y:Pl.Ln) (va:Option Addr) (xa:Option Addr) (ya:Option Addr) (vc:Nat) (xc:Nat) (yc:Nat) (p:Nat) (o:Nat) (n:Nat) (k:Nat) (b0:Nat) (jj:Nat) (u:Value) (_:World):Prop:=match jj with
 |0|10=>u=.int .i64 (k:Int)
 |1|8=>u=.pointer (some ⟨b0,2,none⟩)
 |2|9=>u=.slice va n vc
 |3=>u=.int .i64 (n:Int)
 |4|5=>u=.bool true
 |6=>u=.pointer (some ⟨b0,0,none⟩)
 |7=>u=.string b.kind
 |11=>u=.pointer (some ⟨p,o+k*2,none⟩)
 |12=>u=.agg #[.string y.key,.slice ya y.ws.length yc]
 |13=>u=.agg #[.string x.key,.slice xa x.ws.length xc]
 |14|15=>u=.bool false
 |_=>True
theorem FU (b:Pl.Bl) (x:Pl.Ln) (y:Pl.Ln) (va:Option Addr) (xa:Option Addr) (ya:Option Addr) (vc:Nat) (xc:Nat) (yc:Nat) (p:Nat) (o:Nat) (n:Nat) (k:Nat) (b0:Nat):∀ jj u W W',Bel W W'→VPc b x y va xa ya vc xc yc p o n k b0 jj u W→VPc b x y va xa ya vc xc yc p o n k b0 jj u W':=fun _ _ _ _ _ h=>h
theorem x9 (b:Pl.Bl) (x:Pl.Ln) (lv wv:Value) (F Fx:List Nat) (w:World) (h:Rep w false aV F [bD b.lines] [lv]) (hx:Rep w false bm Fx [.row x.ws.length (txD x.ws)] [wv]) (hl:b.lines.length≤4194304):
  Calls Tryz.prog 27 #[.agg #[.string b.kind,.string b.name,lv],.agg #[.string x.key,wv]] w (Ha aq (blD ⟨b.kind,b.name,Pl.bS b.kind b.lines x⟩) (fun q=>q∈F∨q∈Fx) w):=by
 obtain⟨i0,iK,dp,eV,kD⟩:=i6 Tryz.ir;obtain⟨va,vc,ev⟩:=h.raw.aT;obtain⟨xa,xc,ex⟩:=hx.raw.aT;subst ev;subst ex;obtain⟨n,hn⟩:∃ n,n=b.lines.length:=⟨_,rfl⟩
 have HN:=uh hn;have O4:n≤4194304:=by omega
 obtain⟨b0,aU⟩:∃ b0,b0=w.heap.size:=⟨_,rfl⟩
 have fZ:=uh aU;have Ml:Hid (∀ q∈F,q<b0):=fun q hq=>by rw[aU];exact h.lt q hq
 have Eu:Hid (∀ q∈Fx++[],q<b0):=fun q hq=>by rw[aU];rw[Xl]at hq;exact hx.lt q hq
 have VR:=uh hx;have JL:Hid (Rep w false ao (Fx++[]) (lnD x) [.string x.key,.slice xa x.ws.length xc]):=fE x.key hx;have HL:=uh h;rw[← hn];rw[← hn]at HL;clear h hx hl hn;obtain⟨wa,aP⟩:∃ wa,wa=((w.alloc (.cells #[.string b.kind,.string b.name,.slice va n vc] 58)).alloc (.cells #[.string x.key,.slice xa x.ws.length xc] 41)).alloc (.cells #[.string {data:=#[]},.string {data:=#[]},.slice none 0 0] 58):=⟨_,rfl⟩
 have H0:Hid (Pt w b0 b.kind b.name (.slice va n vc) [.string x.key,.slice xa x.ws.length xc] wa):=by
  show Pt _ _ _ _ _ _ _;refine⟨?_, ?_, ?_, ?_⟩
  ·rw[aP];exact af (af (af zR _) _) _
  ·rw[aP,aU];exact(aA.new w [.string b.kind,.string b.name,.slice va n vc] 58 _ rfl).later (af (af zR _) _)
  ·rw[aP,aU];exact(au.new (w.alloc (.cells #[.string b.kind,.string b.name,.slice va n vc] 58)) #[.string x.key,.slice xa x.ws.length xc] 41 _ (by simp)).eO _
  ·rw[aP,aU];exact aA.new ((w.alloc (.cells #[.string b.kind,.string b.name,.slice va n vc] 58)).alloc (.cells #[.string x.key,.slice xa x.ws.length xc] 41)) [.string {data:=#[]},.string {data:=#[]},.slice none 0 0] 58 _ (by simp)
 go_enter Tryz.func27,Tryz.ntmps27
 go_upto_region 1 with fail
 rw[← aP,← aU];clear aP aU;go_wp2;go_loopw [5] (fun vi wr=>∃ k:Nat,k≤n∧vi=.int .i64 k∧Pt w b0 b.kind b.name (.slice va n vc) [.string x.key,.slice xa x.ws.length xc] wr∧∀ j,j<k→Pl.aL b.kind (b.lines.getD j Pl.aK) x=true) (fun vi _=>n - (intOf vi).toNat)
 case atStart=>exact⟨0,zN,rfl,H0.out,fun j hj=>absurd hj (by omega)⟩
 case round=>
  obtain⟨k,hk,rfl,hO,hI⟩:=hrel;have HO:=uh hO;have HI:=uh hI;have Mq:=uh (fun hh=>Pl.wV Pl.aK (fun y=>Pl.aL b.kind y x) b.lines x k (by have:=HN.out;omega) hI hh);clear hO hI H0;by_cases bq:k<n
  rotate_left
  ·have Iz:¬ ((k:Int)<(n:Int)):=by omega
   have sf:Hid (Pl.bS b.kind b.lines x=b.lines.take k++x::b.lines.drop k):=Mq.out (No (by have:=HN.out;omega));have kC:Hid ((Pl.bS b.kind b.lines x).length=n+1):=by show _=_;rw[sf.out,At,Xm,Xo,Xy];have:=HN.out;omega
   go_upto_region 2 with fail
   refine RY.aM wr zR (VPa va vc n k b0) (Hf _ _ _ _ _) (by kernel_rfl) (by kernel_rfl) (by kernel_rfl) (by kernel_rfl) ?_ ?_
   ·intro i o' ho a X hX hk hd;have z0:=(HO.out.box.later hX).get 0 _ rfl;have z2:=(HO.out.box.later hX).get 2 _ rfl;have rx:=(HO.out.arg.later hX).at_;match i,ho with
    |0,rfl=>
     exact RY.n (RY.p (.int .i64 (k:Int)) (by simp[execOp,go_sem,RY.K hk 5 (.int .i64 (k:Int))]))
    |1,rfl=>
     exact RY.n (RY.p (.pointer (some ⟨b0,2,none⟩)) (by simp[execOp,go_sem,RY.K hk 2 (.pointer (some ⟨b0,0,none⟩))]))
    |2,rfl=>
     exact RY.n (RY.p (.slice va n vc) (by simp[execOp,go_sem,RY.E hd 1 7,z2]))
    |3,rfl=>
     exact RY.n (RY.p (.int .i64 (n:Int)) (by simp[go_sem,RY.E hd 2 8]))
    |4,rfl=>
     exact RY.n (RY.p (.bool false) (by simp[execOp,go_sem,RY.E hd 0 6,RY.E hd 3 9,Iz]))
    |5,rfl=>
     exact RY.n (RY.p (.bool false) (by simp[execOp,go_sem,RY.E hd 4 10]))
    |6,rfl|7,rfl|8,rfl|9,rfl|10,rfl|11,rfl|12,rfl|13,rfl|14,rfl=>
     exact RY.off hd 5 11
    |15,rfl=>
     exact RY.n (RY.p (.bool false) (by simp[execOp,go_sem,RY.E hd 5 11,RY.E hd 14 20]))
    |n+16,ho=>simp at ho
   intro X vs hX bn;have q21:vs 21=_:=bn 15 _ 21 rfl rfl;simp only[RY.aC,Act.put,so,As,An];rw[q21];generalize vs 6=s6,vs 7=s7,vs 8=s8,vs 9=s9,vs 10=s10,vs 11=s11,vs 12=s12,vs 13=s13,vs 14=s14,vs 15=s15,vs 16=s16,vs 17=s17,vs 18=s18,vs 19=s19,vs 20=s20;clear bn q21;have fy:=uh (HO.out.later hX);clear hX HO;obtain⟨lv,yL⟩:∃ z,z=Value.slice va n vc:=⟨_,rfl⟩
   have jm:Hid (Rep X false aV F [bD b.lines] [lv]):=by show Rep _ _ _ _ _ _;rw[yL];exact HL.out.later fy.out.bel
   rw[← yL]at fy;clear yL;obtain⟨s1,s2,vs,G,hR,wK,pc,uH,kj,Cj⟩:=qm (P:=Tryz.prog) (t:=35) Tryz.fg (Tryz.mu ▸ iK) eV jm.out k (by have:=HN.out;omega);obtain⟨G2,mR,sF⟩:=qg (sh:=ao) lnD vh (k:=k) (x:=x) (by have:=HN.out;omega) hR (JL.out.later fy.out.bel);have ik:vs.length=n*2:=by rw[hR.len,bU,← HN.out];rfl
   have O5:k*2≤n*2:=by omega
   rw[← sf.out]at mR;rw[← HN.out]at mR uH;have Bc:=uh kj;have y6:=uh Cj;have El:=uh pc;have yZ:=uh uH;have k6:Hid (∀ b∈G2,b<b0):=fun b hb=>by rcases sF b hb with h|h;exact Ml.out b (wK b h);exact Eu.out b h
   have I5:=uh sF;have PC:=uh wK;have gR:=uh mR;clear kj Cj pc uH hR wK mR sF jm;go_upto_region 4 with fail
   refine RY.jR X zR 41 2 k (k+1) (n+1) (vs.take (k*2)) (vs.take (k*2)++[.string x.key,.slice xa x.ws.length xc]) (vs.take (k*2)++[.string x.key,.slice xa x.ws.length xc]++vs.drop (k*2)) #[.string x.key,.slice xa x.ws.length xc] (VIn lv s1 s2 k b0 #[.string x.key,.slice xa x.ws.length xc]) (fun u W'=>PtK w b0 b.kind b.name n u G2 ((Pl.bS b.kind b.lines x).flatMap lnD) (vs.take (k*2)++[.string x.key,.slice xa x.ws.length xc]++vs.drop (k*2)) W') 12 24 29 31 32 37 38 (by kernel_rfl) (by kernel_rfl) (by kernel_rfl) (by kernel_rfl) (by kernel_rfl) rfl (by kernel_rfl) _ _ _ _ _ _ _ rfl rfl rfl rfl rfl rfl rfl rfl rfl rfl rfl rfl rfl rfl (by kernel_rfl) (by kernel_rfl) (by kernel_rfl) (by kernel_rfl) (by kernel_rfl) (by kernel_rfl) ?_ ?_ ?_ ?_ ?_ ?_ ?_ ?_ ?_
   ·intro i u h;rcases h with rfl|rfl|rfl|rfl|rfl<;>exact trivial
   ·intro i o' ho n0 n5 n7 n8 n13 n15 a Y hY hk hd;have z2:=(fy.out.box.later hY).get 2 _ rfl;have rx:=(fy.out.arg.later hY).at_;match i,ho with
    |0,ho=>exact absurd rfl n0
    |1,rfl|9,rfl|14,rfl=>
     exact⟨.pointer (some ⟨b0,2,none⟩),by simp[execOp,go_sem,RY.K hk 2 (.pointer (some ⟨b0,0,none⟩))],rfl⟩
    |2,rfl=>
     have e25:a.tmps[25]?.getD undef=_:=(RY.ai a 25).trans (hd 1 _ 25 rfl rfl ⟨⟨1,.data⟩,by simp,rfl,rfl⟩);exact⟨lv,by simp[execOp,go_sem,e25,z2],rfl⟩
    |3,rfl|11,rfl=>
     exact⟨.int .i64 (k:Int),by simp[execOp,go_sem,RY.K hk 5 (.int .i64 (k:Int))],rfl⟩
    |4,rfl=>
     have f26:a.eval (.tmp 26)=lv:=hd 2 _ 26 rfl rfl ⟨⟨2,.data⟩,by simp,rfl,rfl⟩;have f27:a.eval (.tmp 27)=.int .i64 (k:Int):=hd 3 _ 27 rfl rfl ⟨⟨3,.data⟩,by simp,rfl,rfl⟩;exact⟨s1,by simp[execOp,f26,f27,run_sliceAt_slice (P:=Tryz.prog) (w:=Y) 35 lv none (some (.int .i64 (k:Int))) none Tryz.fg,Bc.out],rfl⟩
    |5,ho=>exact absurd rfl n5
    |6,rfl=>
     exact⟨.agg #[.string x.key,.slice xa x.ws.length xc],ak 41 _ rfl (b0+1) 0 ((RY.ai a 3).symm.trans (RY.K hk 3 (.pointer (some ⟨b0+1,0,none⟩)))) [.string x.key,.slice xa x.ws.length xc] _ rx Tryz.underlying41 rfl (by kernel_rfl),rfl⟩
    |7,ho=>exact absurd rfl n7
    |8,ho=>exact absurd rfl n8
    |10,rfl=>
     have e33:a.tmps[33]?.getD undef=_:=(RY.ai a 33).trans (hd 9 _ 33 rfl rfl ⟨⟨9,.data⟩,by simp,rfl,rfl⟩);exact⟨lv,by simp[execOp,go_sem,e33,z2],rfl⟩
    |12,rfl=>
     have f34:a.eval (.tmp 34)=lv:=hd 10 _ 34 rfl rfl ⟨⟨10,.data⟩,by simp,rfl,rfl⟩;have f35:a.eval (.tmp 35)=.int .i64 (k:Int):=hd 11 _ 35 rfl rfl ⟨⟨11,.data⟩,by simp,rfl,rfl⟩;exact⟨s2,by simp[execOp,f34,f35,run_sliceAt_slice (P:=Tryz.prog) (w:=Y) 35 lv (some (.int .i64 (k:Int))) none none Tryz.fg,y6.out],rfl⟩
    |13,ho=>exact absurd rfl n13
    |15,ho=>exact absurd rfl n15
    |n+16,ho=>simp at ho
   ·intro a Y;simp[execOp,go_sem]
   ·intro a Y hd;have e30:a.tmps[30]?.getD undef=_:=(RY.ai a 30).trans (hd 6 _ 30 rfl rfl ⟨⟨6,.data⟩,by simp,rfl,rfl⟩);simp[execOp,go_sem,e30]
   ·intro a Y hY hd ho;have e28:=hd 4 _ 28 rfl rfl ⟨⟨4,.data⟩,by simp,rfl,rfl⟩;obtain⟨u,W',hr,hA⟩:=iU 35 35 41 i0 _ 2 40 Tryz.cI iK dp eV kD rfl (by decide) El.out hY ho (by unfold maxLen;omega) (by omega);rw[Xr,Yn]at hA;exact⟨u,W',aQ (.tmp 24) (.tmp 28) 35 rfl rfl e28 hr,hA⟩
   ·intro a Y hY ho q eq hq;obtain⟨u,W',hr,h2,h3,_,h5⟩:=run_append_own_at (P:=Tryz.prog) Y X.heap.size 35 35 41 i0 _ 2 40 Tryz.cI iK dp eV kD rfl (by decide) _ k _ ho ⟨q,0,none⟩ 1 1 [.string x.key,.slice xa x.ws.length xc] rfl (fun j y hy=>by rw[Addr.add_mid,Xr];simp only[World.cell?,hq];simpa using hy) (by simp[Value.oneCell']) (by unfold maxLen;omega) (by omega) hY.size;exact⟨u,W',aQ (.tmp 29) (.tmp 31) 35 rfl rfl eq hr,h2,h3,h5⟩
   ·intro a Y hY hd ho;have e36:=hd 12 _ 36 rfl rfl ⟨⟨12,.data⟩,by simp,rfl,rfl⟩;obtain⟨u,W',hr,hA⟩:=iU 35 35 41 i0 _ 2 40 Tryz.cI iK dp eV kD rfl (by decide) yZ.out hY ho (by unfold maxLen;omega) (by omega);have en:k+1+(n - k)=n+1:=by omega
    rw[en]at hA;exact⟨u,W',aQ (.tmp 32) (.tmp 36) 35 rfl rfl e36 hr,hA⟩
   ·intro a Y hY PD ho;obtain⟨g,cap,eu,_,_⟩:=ho.form (by omega);have t37:=(RY.ai a 37).trans eu;have t38:a.tmps[38]?.getD undef=_:=(RY.ai a 38).trans PD;have B1:=fy.out.box.later hY;have z2:=B1.get 2 _ rfl;have zf:=B1.own.frozen 2;refine⟨Y.setCell ⟨b0,2,none⟩ (.slice (some ⟨g,0,none⟩) (n+1) cap),by simp[execOp,go_sem,t37,t38,z2,zf], ?_⟩;rw[eu]at ho ⊢;exact PtK.mk' fZ.out (fy.out.later hY) (by have:=fy.out.res.own.lt;omega) ho (gR.out.later hY) k6.out
   ·rintro vals W hK;simp only[RY.aC,Act.put,so,As,An];generalize vals 24=s24;generalize vals 25=s25;generalize vals 26=s26;generalize vals 27=s27;generalize vals 28=s28;generalize vals 29=s29;generalize vals 30=s30;generalize vals 31=sL;generalize vals 32=pS;generalize vals 33=pY;generalize vals 34=qo;generalize vals 35=nP;generalize vals 36=mU;generalize vals 37=nS at hK ⊢;generalize vals 38=mT;obtain⟨g,cap,eu⟩:=hK.form;subst eu;have HK:=uh hK;clear hK fy Bc y6 El yZ gR;go_upto_region 5 with fail
    have lF:=HK.out.box.at_;have iO:=HK.out.box.own.lt;have qv:=HK.out.res.own.lt;have bJ:W.there (b0+2) 0 (#[.string b.kind,.string b.name,.slice (some ⟨g,0,none⟩) (n+1) cap]:Array Value).size:=aX HK.out.res.own _ _ (by simp);obtain⟨we,aZ⟩:∃ we,we=W.setCells (b0+2) 0 [.string b.kind,.string b.name,.slice (some ⟨g,0,none⟩) (n+1) cap]:=⟨_,rfl⟩
    have dP:we.rangeAt (b0+2) 0 [.string b.kind,.string b.name,.slice (some ⟨g,0,none⟩) (n+1) cap]:=by rw[aZ];exact World.rangeAt_setCells_same _ _ _ _ bJ
    have gT:Hid (Marks (fun b=>b=b0+2) W we):=by show Marks _ _ _;rw[aZ];exact bf (S:=fun b=>b=b0+2) rfl _ _ _
    go_wp2_with (first|(refine wpList_load_mid rfl 58 _ rfl b0 0 rfl [.string b.kind,.string b.name,.slice (some ⟨g,0,none⟩) (n+1) cap] _ lF Tryz.underlying58 rfl (by kernel_rfl) ?_)|(refine wpList_store_mid rfl 58 _ _ rfl (b0+2) 0 #[.string b.kind,.string b.name,.slice (some ⟨g,0,none⟩) (n+1) cap] rfl rfl bJ (by kernel_rfl) (by simp[Value.oneCell']) ?_))
    first|rw[← aZ]|(simp only[Xi];rw[← aZ])
    try simp only[Act.put]
    refine bodyPost_ret (v:=.agg #[.string b.kind,.string b.name,.slice (some ⟨g,0,none⟩) (n+1) cap]) (by simp[results,Tryz.results27,asAddr,run_loadVar_mid (P:=Tryz.prog) _ _ _ 58 [.string b.kind,.string b.name,.slice (some ⟨g,0,none⟩) (n+1) cap] _ dP Tryz.underlying58 rfl (by kernel_rfl)]) rfl ?_;exact HK.out.ans fZ.out gT.out k6.out kC.out (fun b hb=>by rcases I5.out b hb with h|h;exact No (PC.out b h);exact Xk (by simpa using h))
  have eB:k<b.lines.length:=by have:=HN.out;omega
  rcases bO (HL.out.later HO.out.bel).raw with⟨e0,_⟩|⟨p,o,c,hv,hp,dR,aE⟩
  ·omega
  rw[← HN.out]at hv;injection hv with g1 _ g3
  subst g1;subst g3;obtain⟨ya,yc,ji,lQ⟩:=aE k eB;obtain⟨y,hy⟩:∃ y,y=b.lines.getD k Pl.aK:=⟨_,rfl⟩
  rw[← hy]at ji lQ;have HY:=uh hy;have Cd:=uh ji;have de:=uh hp;have wG:=uh (VR.out.later HO.out.bel);have IP:=uh lQ;have Iz:(k:Int)<(n:Int):=by omega
  have cZ:(0:Int)≤(k:Int):=by omega
  have dy:(k:Int)<(n:Int):=by omega
  clear hy ji lQ hp aE dR;cases nK:Pl.aL b.kind y x
  ·have jN:Hid (∀ X,Bel wr X→Calls Tryz.prog 48 #[.string b.kind,.agg #[.string y.key,.slice ya y.ws.length yc],.agg #[.string x.key,.slice xa x.ws.length xc]] X fun e w'=>e=.returned (.bool false)∧Bel X w'):=fun X hX=>by
    have:=jY b.kind y x ya xa yc xc X (IP.out.later hX) (wG.out.later hX).raw;rwa [nK]at this
   have sf:Hid (Pl.bS b.kind b.lines x=b.lines.take k++x::b.lines.drop k):=Mq.out (Xk (by rw[← HY.out];exact nK));have kC:Hid ((Pl.bS b.kind b.lines x).length=n+1):=by show _=_;rw[sf.out,At,Xm,Xo,Xy];have:=HN.out;omega
   go_upto_region 2 with fail
   refine RY.aM wr zR (VPc b x y (some ⟨p,o,none⟩) xa ya vc xc yc p o n k b0) (FU _ _ _ _ _ _ _ _ _ _ _ _ _ _) (by kernel_rfl) (by kernel_rfl) (by kernel_rfl) (by kernel_rfl) ?_ ?_
   ·intro i o' ho a X hX hk hd;have z0:=(HO.out.box.later hX).get 0 _ rfl;have z2:=(HO.out.box.later hX).get 2 _ rfl;have rx:=(HO.out.arg.later hX).at_;have ry:=aj Cd.out de.out hX;match i,ho with
    |0,rfl=>
     exact RY.n (RY.p (.int .i64 (k:Int)) (by simp[execOp,go_sem,RY.K hk 5 (.int .i64 (k:Int))]))
    |1,rfl=>
     exact RY.n (RY.p (.pointer (some ⟨b0,2,none⟩)) (by simp[execOp,go_sem,RY.K hk 2 (.pointer (some ⟨b0,0,none⟩))]))
    |2,rfl=>
     exact RY.n (RY.p (.slice (some ⟨p,o,none⟩) n vc) (by simp[execOp,go_sem,RY.E hd 1 7,z2]))
    |3,rfl=>
     exact RY.n (RY.p (.int .i64 (n:Int)) (by simp[go_sem,RY.E hd 2 8]))
    |4,rfl=>
     exact RY.n (RY.p (.bool true) (by simp[execOp,go_sem,RY.E hd 0 6,RY.E hd 3 9,Iz]))
    |5,rfl=>
     exact RY.n (RY.p (.bool true) (by simp[execOp,go_sem,RY.E hd 4 10]))
    |6,rfl=>
     exact RY.on hd 5 11 (RY.p (.pointer (some ⟨b0,0,none⟩)) (by simp[execOp,go_sem,RY.K hk 2 (.pointer (some ⟨b0,0,none⟩))]))
    |7,rfl=>
     exact RY.on hd 5 11 (RY.p (.string b.kind) (by simp[execOp,go_sem,RY.E hd 6 12,z0]))
    |8,rfl=>
     exact RY.on hd 5 11 (RY.p (.pointer (some ⟨b0,2,none⟩)) (by simp[execOp,go_sem,RY.K hk 2 (.pointer (some ⟨b0,0,none⟩))]))
    |9,rfl=>
     exact RY.on hd 5 11 (RY.p (.slice (some ⟨p,o,none⟩) n vc) (by simp[execOp,go_sem,RY.E hd 8 14,z2]))
    |10,rfl=>
     exact RY.on hd 5 11 (RY.p (.int .i64 (k:Int)) (by simp[execOp,go_sem,RY.K hk 5 (.int .i64 (k:Int))]))
    |11,rfl=>
     exact RY.on hd 5 11 (RY.p (.pointer (some ⟨p,o+k*2,none⟩)) (by simp[execOp,go_sem,RY.E hd 9 15,RY.E hd 10 16,cZ,dy]))
    |12,rfl=>
     have gd:=hd 5 _ 11 rfl rfl ⟨⟨5,.guard⟩,by simp,rfl,rfl⟩;exact No ⟨(RY.bg rfl rfl rfl gd).trans rfl,No ⟨.agg #[.string y.key,.slice ya y.ws.length yc],X,ak 41 _ rfl p (o+k*2) ((RY.ai a 17).symm.trans (RY.E hd 11 17)) [.string y.key,.slice ya y.ws.length yc] _ ry Tryz.underlying41 rfl (by kernel_rfl),zR,rfl⟩⟩
    |13,rfl=>
     have gd:=hd 5 _ 11 rfl rfl ⟨⟨5,.guard⟩,by simp,rfl,rfl⟩;exact No ⟨(RY.bg rfl rfl rfl gd).trans rfl,No ⟨.agg #[.string x.key,.slice xa x.ws.length xc],X,ak 41 _ rfl (b0+1) 0 ((RY.ai a 3).symm.trans (RY.K hk 3 (.pointer (some ⟨b0+1,0,none⟩)))) [.string x.key,.slice xa x.ws.length xc] _ rx Tryz.underlying41 rfl (by kernel_rfl),zR,rfl⟩⟩
    |14,rfl=>
     have e13:=RY.E hd 7 13;have e18:=RY.E hd 12 18;have e19:=RY.E hd 13 19;refine RY.on hd 5 11 (.inr ⟨48,#[.string b.kind,.agg #[.string y.key,.slice ya y.ws.length yc],.agg #[.string x.key,.slice xa x.ws.length xc]],by simp[go_sem,e13,e18,e19],(jN.out X hX).mono ?_⟩);rintro e W' ⟨rfl,hb⟩;exact⟨_,rfl,hb,rfl⟩
    |15,rfl=>
     exact RY.n (RY.p (.bool false) (by simp[execOp,go_sem,RY.E hd 5 11,RY.E hd 14 20]))
    |n+16,ho=>simp at ho
   intro X vs hX bn;have q21:vs 21=_:=bn 15 _ 21 rfl rfl;simp only[RY.aC,Act.put,so,As,An];rw[q21];generalize vs 6=s6,vs 7=s7,vs 8=s8,vs 9=s9,vs 10=s10,vs 11=s11,vs 12=s12,vs 13=s13,vs 14=s14,vs 15=s15,vs 16=s16,vs 17=s17,vs 18=s18,vs 19=s19,vs 20=s20;clear bn q21;have fy:=uh (HO.out.later hX);clear hX HO;obtain⟨lv,yL⟩:∃ z,z=Value.slice (some ⟨p,o,none⟩) n vc:=⟨_,rfl⟩
   have jm:Hid (Rep X false aV F [bD b.lines] [lv]):=by show Rep _ _ _ _ _ _;rw[yL];exact HL.out.later fy.out.bel
   rw[← yL]at fy;clear yL;obtain⟨s1,s2,vs,G,hR,wK,pc,uH,kj,Cj⟩:=qm (P:=Tryz.prog) (t:=35) Tryz.fg (Tryz.mu ▸ iK) eV jm.out k (by have:=HN.out;omega);obtain⟨G2,mR,sF⟩:=qg (sh:=ao) lnD vh (k:=k) (x:=x) (by have:=HN.out;omega) hR (JL.out.later fy.out.bel);have ik:vs.length=n*2:=by rw[hR.len,bU,← HN.out];rfl
   have O5:k*2≤n*2:=by omega
   rw[← sf.out]at mR;rw[← HN.out]at mR uH;have Bc:=uh kj;have y6:=uh Cj;have El:=uh pc;have yZ:=uh uH;have k6:Hid (∀ b∈G2,b<b0):=fun b hb=>by rcases sF b hb with h|h;exact Ml.out b (wK b h);exact Eu.out b h
   have I5:=uh sF;have PC:=uh wK;have gR:=uh mR;clear kj Cj pc uH hR wK mR sF jm;go_upto_region 4 with fail
   refine RY.jR X zR 41 2 k (k+1) (n+1) (vs.take (k*2)) (vs.take (k*2)++[.string x.key,.slice xa x.ws.length xc]) (vs.take (k*2)++[.string x.key,.slice xa x.ws.length xc]++vs.drop (k*2)) #[.string x.key,.slice xa x.ws.length xc] (VIn lv s1 s2 k b0 #[.string x.key,.slice xa x.ws.length xc]) (fun u W'=>PtK w b0 b.kind b.name n u G2 ((Pl.bS b.kind b.lines x).flatMap lnD) (vs.take (k*2)++[.string x.key,.slice xa x.ws.length xc]++vs.drop (k*2)) W') 12 24 29 31 32 37 38 (by kernel_rfl) (by kernel_rfl) (by kernel_rfl) (by kernel_rfl) (by kernel_rfl) rfl (by kernel_rfl) _ _ _ _ _ _ _ rfl rfl rfl rfl rfl rfl rfl rfl rfl rfl rfl rfl rfl rfl (by kernel_rfl) (by kernel_rfl) (by kernel_rfl) (by kernel_rfl) (by kernel_rfl) (by kernel_rfl) ?_ ?_ ?_ ?_ ?_ ?_ ?_ ?_ ?_
   ·intro i u h;rcases h with rfl|rfl|rfl|rfl|rfl<;>exact trivial
   ·intro i o' ho n0 n5 n7 n8 n13 n15 a Y hY hk hd;have z2:=(fy.out.box.later hY).get 2 _ rfl;have rx:=(fy.out.arg.later hY).at_;match i,ho with
    |0,ho=>exact absurd rfl n0
    |1,rfl|9,rfl|14,rfl=>
     exact⟨.pointer (some ⟨b0,2,none⟩),by simp[execOp,go_sem,RY.K hk 2 (.pointer (some ⟨b0,0,none⟩))],rfl⟩
    |2,rfl=>
     have e25:a.tmps[25]?.getD undef=_:=(RY.ai a 25).trans (hd 1 _ 25 rfl rfl ⟨⟨1,.data⟩,by simp,rfl,rfl⟩);exact⟨lv,by simp[execOp,go_sem,e25,z2],rfl⟩
    |3,rfl|11,rfl=>
     exact⟨.int .i64 (k:Int),by simp[execOp,go_sem,RY.K hk 5 (.int .i64 (k:Int))],rfl⟩
    |4,rfl=>
     have f26:a.eval (.tmp 26)=lv:=hd 2 _ 26 rfl rfl ⟨⟨2,.data⟩,by simp,rfl,rfl⟩;have f27:a.eval (.tmp 27)=.int .i64 (k:Int):=hd 3 _ 27 rfl rfl ⟨⟨3,.data⟩,by simp,rfl,rfl⟩;exact⟨s1,by simp[execOp,f26,f27,run_sliceAt_slice (P:=Tryz.prog) (w:=Y) 35 lv none (some (.int .i64 (k:Int))) none Tryz.fg,Bc.out],rfl⟩
    |5,ho=>exact absurd rfl n5
    |6,rfl=>
     exact⟨.agg #[.string x.key,.slice xa x.ws.length xc],ak 41 _ rfl (b0+1) 0 ((RY.ai a 3).symm.trans (RY.K hk 3 (.pointer (some ⟨b0+1,0,none⟩)))) [.string x.key,.slice xa x.ws.length xc] _ rx Tryz.underlying41 rfl (by kernel_rfl),rfl⟩
    |7,ho=>exact absurd rfl n7
    |8,ho=>exact absurd rfl n8
    |10,rfl=>
     have e33:a.tmps[33]?.getD undef=_:=(RY.ai a 33).trans (hd 9 _ 33 rfl rfl ⟨⟨9,.data⟩,by simp,rfl,rfl⟩);exact⟨lv,by simp[execOp,go_sem,e33,z2],rfl⟩
    |12,rfl=>
     have f34:a.eval (.tmp 34)=lv:=hd 10 _ 34 rfl rfl ⟨⟨10,.data⟩,by simp,rfl,rfl⟩;have f35:a.eval (.tmp 35)=.int .i64 (k:Int):=hd 11 _ 35 rfl rfl ⟨⟨11,.data⟩,by simp,rfl,rfl⟩;exact⟨s2,by simp[execOp,f34,f35,run_sliceAt_slice (P:=Tryz.prog) (w:=Y) 35 lv (some (.int .i64 (k:Int))) none none Tryz.fg,y6.out],rfl⟩
    |13,ho=>exact absurd rfl n13
    |15,ho=>exact absurd rfl n15
    |n+16,ho=>simp at ho
   ·intro a Y;simp[execOp,go_sem]
   ·intro a Y hd;have e30:a.tmps[30]?.getD undef=_:=(RY.ai a 30).trans (hd 6 _ 30 rfl rfl ⟨⟨6,.data⟩,by simp,rfl,rfl⟩);simp[execOp,go_sem,e30]
   ·intro a Y hY hd ho;have e28:=hd 4 _ 28 rfl rfl ⟨⟨4,.data⟩,by simp,rfl,rfl⟩;obtain⟨u,W',hr,hA⟩:=iU 35 35 41 i0 _ 2 40 Tryz.cI iK dp eV kD rfl (by decide) El.out hY ho (by unfold maxLen;omega) (by omega);rw[Xr,Yn]at hA;exact⟨u,W',aQ (.tmp 24) (.tmp 28) 35 rfl rfl e28 hr,hA⟩
   ·intro a Y hY ho q eq hq;obtain⟨u,W',hr,h2,h3,_,h5⟩:=run_append_own_at (P:=Tryz.prog) Y X.heap.size 35 35 41 i0 _ 2 40 Tryz.cI iK dp eV kD rfl (by decide) _ k _ ho ⟨q,0,none⟩ 1 1 [.string x.key,.slice xa x.ws.length xc] rfl (fun j y hy=>by rw[Addr.add_mid,Xr];simp only[World.cell?,hq];simpa using hy) (by simp[Value.oneCell']) (by unfold maxLen;omega) (by omega) hY.size;exact⟨u,W',aQ (.tmp 29) (.tmp 31) 35 rfl rfl eq hr,h2,h3,h5⟩
   ·intro a Y hY hd ho;have e36:=hd 12 _ 36 rfl rfl ⟨⟨12,.data⟩,by simp,rfl,rfl⟩;obtain⟨u,W',hr,hA⟩:=iU 35 35 41 i0 _ 2 40 Tryz.cI iK dp eV kD rfl (by decide) yZ.out hY ho (by unfold maxLen;omega) (by omega);have en:k+1+(n - k)=n+1:=by omega
    rw[en]at hA;exact⟨u,W',aQ (.tmp 32) (.tmp 36) 35 rfl rfl e36 hr,hA⟩
   ·intro a Y hY PD ho;obtain⟨g,cap,eu,_,_⟩:=ho.form (by omega);have t37:=(RY.ai a 37).trans eu;have t38:a.tmps[38]?.getD undef=_:=(RY.ai a 38).trans PD;have B1:=fy.out.box.later hY;have z2:=B1.get 2 _ rfl;have zf:=B1.own.frozen 2;refine⟨Y.setCell ⟨b0,2,none⟩ (.slice (some ⟨g,0,none⟩) (n+1) cap),by simp[execOp,go_sem,t37,t38,z2,zf], ?_⟩;rw[eu]at ho ⊢;exact PtK.mk' fZ.out (fy.out.later hY) (by have:=fy.out.res.own.lt;omega) ho (gR.out.later hY) k6.out
   ·rintro vals W hK;simp only[RY.aC,Act.put,so,As,An];generalize vals 24=s24;generalize vals 25=s25;generalize vals 26=s26;generalize vals 27=s27;generalize vals 28=s28;generalize vals 29=s29;generalize vals 30=s30;generalize vals 31=sL;generalize vals 32=pS;generalize vals 33=pY;generalize vals 34=qo;generalize vals 35=nP;generalize vals 36=mU;generalize vals 37=nS at hK ⊢;generalize vals 38=mT;obtain⟨g,cap,eu⟩:=hK.form;subst eu;have HK:=uh hK;clear hK fy Bc y6 El yZ gR;go_upto_region 5 with fail
    have lF:=HK.out.box.at_;have iO:=HK.out.box.own.lt;have qv:=HK.out.res.own.lt;have bJ:W.there (b0+2) 0 (#[.string b.kind,.string b.name,.slice (some ⟨g,0,none⟩) (n+1) cap]:Array Value).size:=aX HK.out.res.own _ _ (by simp);obtain⟨we,aZ⟩:∃ we,we=W.setCells (b0+2) 0 [.string b.kind,.string b.name,.slice (some ⟨g,0,none⟩) (n+1) cap]:=⟨_,rfl⟩
    have dP:we.rangeAt (b0+2) 0 [.string b.kind,.string b.name,.slice (some ⟨g,0,none⟩) (n+1) cap]:=by rw[aZ];exact World.rangeAt_setCells_same _ _ _ _ bJ
    have gT:Hid (Marks (fun b=>b=b0+2) W we):=by show Marks _ _ _;rw[aZ];exact bf (S:=fun b=>b=b0+2) rfl _ _ _
    go_wp2_with (first|(refine wpList_load_mid rfl 58 _ rfl b0 0 rfl [.string b.kind,.string b.name,.slice (some ⟨g,0,none⟩) (n+1) cap] _ lF Tryz.underlying58 rfl (by kernel_rfl) ?_)|(refine wpList_store_mid rfl 58 _ _ rfl (b0+2) 0 #[.string b.kind,.string b.name,.slice (some ⟨g,0,none⟩) (n+1) cap] rfl rfl bJ (by kernel_rfl) (by simp[Value.oneCell']) ?_))
    first|rw[← aZ]|(simp only[Xi];rw[← aZ])
    try simp only[Act.put]
    refine bodyPost_ret (v:=.agg #[.string b.kind,.string b.name,.slice (some ⟨g,0,none⟩) (n+1) cap]) (by simp[results,Tryz.results27,asAddr,run_loadVar_mid (P:=Tryz.prog) _ _ _ 58 [.string b.kind,.string b.name,.slice (some ⟨g,0,none⟩) (n+1) cap] _ dP Tryz.underlying58 rfl (by kernel_rfl)]) rfl ?_;exact HK.out.ans fZ.out gT.out k6.out kC.out (fun b hb=>by rcases I5.out b hb with h|h;exact No (PC.out b h);exact Xk (by simpa using h))
  ·have jN:Hid (∀ X,Bel wr X→Calls Tryz.prog 48 #[.string b.kind,.agg #[.string y.key,.slice ya y.ws.length yc],.agg #[.string x.key,.slice xa x.ws.length xc]] X fun e w'=>e=.returned (.bool true)∧Bel X w'):=fun X hX=>by
    have:=jY b.kind y x ya xa yc xc X (IP.out.later hX) (wG.out.later hX).raw;rwa [nK]at this
   have I5:Hid (∀ j,j<k+1→Pl.aL b.kind (b.lines.getD j Pl.aK) x=true):=fun j hj=>by
    by_cases e:j=k
    ·rw[e,← HY.out];exact nK
    ·exact HI.out j (by omega)
   go_upto_region 2 with fail
   refine RY.aM wr zR (VPb b x y (some ⟨p,o,none⟩) xa ya vc xc yc p o n k b0) (Gv _ _ _ _ _ _ _ _ _ _ _ _ _ _) (by kernel_rfl) (by kernel_rfl) (by kernel_rfl) (by kernel_rfl) ?_ ?_
   ·intro i o' ho a X hX hk hd;have z0:=(HO.out.box.later hX).get 0 _ rfl;have z2:=(HO.out.box.later hX).get 2 _ rfl;have rx:=(HO.out.arg.later hX).at_;have ry:=aj Cd.out de.out hX;match i,ho with
    |0,rfl=>
     exact RY.n (RY.p (.int .i64 (k:Int)) (by simp[execOp,go_sem,RY.K hk 5 (.int .i64 (k:Int))]))
    |1,rfl=>
     exact RY.n (RY.p (.pointer (some ⟨b0,2,none⟩)) (by simp[execOp,go_sem,RY.K hk 2 (.pointer (some ⟨b0,0,none⟩))]))
    |2,rfl=>
     exact RY.n (RY.p (.slice (some ⟨p,o,none⟩) n vc) (by simp[execOp,go_sem,RY.E hd 1 7,z2]))
    |3,rfl=>
     exact RY.n (RY.p (.int .i64 (n:Int)) (by simp[go_sem,RY.E hd 2 8]))
    |4,rfl=>
     exact RY.n (RY.p (.bool true) (by simp[execOp,go_sem,RY.E hd 0 6,RY.E hd 3 9,Iz]))
    |5,rfl=>
     exact RY.n (RY.p (.bool true) (by simp[execOp,go_sem,RY.E hd 4 10]))
    |6,rfl=>
     exact RY.on hd 5 11 (RY.p (.pointer (some ⟨b0,0,none⟩)) (by simp[execOp,go_sem,RY.K hk 2 (.pointer (some ⟨b0,0,none⟩))]))
    |7,rfl=>
     exact RY.on hd 5 11 (RY.p (.string b.kind) (by simp[execOp,go_sem,RY.E hd 6 12,z0]))
    |8,rfl=>
     exact RY.on hd 5 11 (RY.p (.pointer (some ⟨b0,2,none⟩)) (by simp[execOp,go_sem,RY.K hk 2 (.pointer (some ⟨b0,0,none⟩))]))
    |9,rfl=>
     exact RY.on hd 5 11 (RY.p (.slice (some ⟨p,o,none⟩) n vc) (by simp[execOp,go_sem,RY.E hd 8 14,z2]))
    |10,rfl=>
     exact RY.on hd 5 11 (RY.p (.int .i64 (k:Int)) (by simp[execOp,go_sem,RY.K hk 5 (.int .i64 (k:Int))]))
    |11,rfl=>
     exact RY.on hd 5 11 (RY.p (.pointer (some ⟨p,o+k*2,none⟩)) (by simp[execOp,go_sem,RY.E hd 9 15,RY.E hd 10 16,cZ,dy]))
    |12,rfl=>
     have gd:=hd 5 _ 11 rfl rfl ⟨⟨5,.guard⟩,by simp,rfl,rfl⟩;exact No ⟨(RY.bg rfl rfl rfl gd).trans rfl,No ⟨.agg #[.string y.key,.slice ya y.ws.length yc],X,ak 41 _ rfl p (o+k*2) ((RY.ai a 17).symm.trans (RY.E hd 11 17)) [.string y.key,.slice ya y.ws.length yc] _ ry Tryz.underlying41 rfl (by kernel_rfl),zR,rfl⟩⟩
    |13,rfl=>
     have gd:=hd 5 _ 11 rfl rfl ⟨⟨5,.guard⟩,by simp,rfl,rfl⟩;exact No ⟨(RY.bg rfl rfl rfl gd).trans rfl,No ⟨.agg #[.string x.key,.slice xa x.ws.length xc],X,ak 41 _ rfl (b0+1) 0 ((RY.ai a 3).symm.trans (RY.K hk 3 (.pointer (some ⟨b0+1,0,none⟩)))) [.string x.key,.slice xa x.ws.length xc] _ rx Tryz.underlying41 rfl (by kernel_rfl),zR,rfl⟩⟩
    |14,rfl=>
     have e13:=RY.E hd 7 13;have e18:=RY.E hd 12 18;have e19:=RY.E hd 13 19;refine RY.on hd 5 11 (.inr ⟨48,#[.string b.kind,.agg #[.string y.key,.slice ya y.ws.length yc],.agg #[.string x.key,.slice xa x.ws.length xc]],by simp[go_sem,e13,e18,e19],(jN.out X hX).mono ?_⟩);rintro e W' ⟨rfl,hb⟩;exact⟨_,rfl,hb,rfl⟩
    |15,rfl=>
     exact RY.n (RY.p (.bool true) (by simp[execOp,go_sem,RY.E hd 5 11,RY.E hd 14 20]))
    |n+16,ho=>simp at ho
   intro X vs hX bn;have q21:vs 21=_:=bn 15 _ 21 rfl rfl;simp only[RY.aC,Act.put,so,As,An];rw[q21];generalize vs 6=s6,vs 7=s7,vs 8=s8,vs 9=s9,vs 10=s10,vs 11=s11,vs 12=s12,vs 13=s13,vs 14=s14,vs 15=s15,vs 16=s16,vs 17=s17,vs 18=s18,vs 19=s19,vs 20=s20;clear bn q21;have fy:=uh (HO.out.later hX);clear hX HO;go_wp2;go_roundw
   case rel=>exact⟨k+1,by omega,by go_num,fy.out,I5.out⟩
   case measure=>simp[intOf];omega
end Go.Proofs.YtgiglpnaekbegaaGreatDoor
namespace Go.Proofs.YtgiglpnaekbegaaGreatDoor.Pl
def isB (kind name:ByteArray) (b:Bl):Bool:=(b.kind.toList==kind.toList)&&(b.name.toList==name.toList)
def findF (kind name:ByteArray):List Bl→Nat→Option Nat
 |[],_=>none
 |b::l,j=>if isB kind name b then some j else findF kind name l (j+1)
def di (l:List Bl) (kind name:ByteArray):Option Nat:=findF kind name l 0
theorem Cu {l:List Bl} {kind name:ByteArray} {k:Nat} (hk:k<l.length) (h:di l kind name=findF kind name (l.drop k) k) (hb:isB kind name (l.getD k aG)=true):di l kind name=some k:=by
 have e:l.getD k aG=l[k]:=by simp[hk]
 rw[h,XA hk,findF,← e,if_pos hb]
theorem zp {l:List Bl} {kind name:ByteArray} {k:Nat} (hk:k<l.length) (h:di l kind name=findF kind name (l.drop k) k) (hb:isB kind name (l.getD k aG)=false):di l kind name=findF kind name (l.drop (k+1)) (k+1):=by
 have e:l.getD k aG=l[k]:=by simp[hk]
 rw[h,XA hk,findF,← e,hb];rfl
theorem CI {l:List Bl} {kind name:ByteArray} (h:di l kind name=findF kind name (l.drop l.length) l.length):di l kind name=none:=by
 rw[h,List.drop_length,findF]
theorem rK {kind name:ByteArray}:∀ (l:List Bl) (j k:Nat),findF kind name l j=some k→j≤k∧k<j+l.length
 |[],_,_,h=>by simp[findF]at h
 |b::l,j,k,h=>by
  rw[findF]at h;split at h
  ·injection h with h;subst h;simp
  ·have:=rK l (j+1) k h;simp only[Xm];omega
theorem yr {l:List Bl} {kind name:ByteArray} {k:Nat} (h:di l kind name=some k):k<l.length:=by have:=rK l 0 k h;omega
def aO (l:List Ln) (key:ByteArray):List Ln:=l.filter fun x=>x.key.toList==key.toList
theorem vG {l:List Ln} {key:ByteArray} {k:Nat} (hk:k<l.length):aO (l.take (k+1)) key=if (l.getD k aK).key.toList==key.toList then aO (l.take k) key++[l.getD k aK] else aO (l.take k) key:=by
 rw[cp aK l k hk,aO,aO,List.filter_append,List.filter_cons,List.filter_nil];split<;>simp
theorem gG (l:List Ln) (key:ByteArray):(aO l key).length≤l.length:=Yz _ _
end Go.Proofs.YtgiglpnaekbegaaGreatDoor.Pl
namespace Go.Proofs.YtgiglpnaekbegaaGreatDoor
set_option maxRecDepth 8000
set_option maxHeartbeats 40000000
open Go.RowKit Go.Deep
theorem rU (s:List Pl.Bl) (v:Value) (kind name:ByteArray) (w:World) (h:Raw w bL [cq s] [v]):
  Calls Tryz.prog 22 #[.agg #[v],.string kind,.string name] w fun e w'=>e=.returned (.int .i64 (Pl.ixI (Pl.di s kind name)))∧Bel w w':=by
 have HL:=uh h;obtain⟨va,vc,ev⟩:=h.aT;subst ev;clear h;obtain⟨n,hn⟩:∃ n,n=s.length:=⟨_,rfl⟩
 have HN:=uh hn;have gF:s.length=n:=hn.symm;clear hn;rw[gF];clear gF;obtain⟨wa,aP⟩:∃ wa,wa=w.alloc (.cells #[.slice va n vc] 26):=⟨_,rfl⟩
 have ti:Hid (Bel w wa):=by show Below _ _ _;rw[aP];exact af zR _
 have dX:Hid (au wa w.heap.size [.slice va n vc]):=by show au _ _ _;rw[aP];exact au.new w #[.slice va n vc] _ _ rfl
 go_enter Tryz.func22,Tryz.ntmps22
 go_upto_region 1 with fail
 rw[← aP];clear aP;have x0:=dX.out.get 0 _ rfl;have xl:=dX.out.lt;obtain⟨b0,aU⟩:∃ b0,b0=w.heap.size:=⟨_,rfl⟩
 rw[← aU]at x0 xl ⊢;have fZ:=uh aU;clear aU;go_wp2;go_loop [7] (fun i=>∃ k:Nat,k≤n∧i=.int .i64 k∧Pl.di s kind name=Pl.findF kind name (s.drop k) k) (fun i=>n - (intOf i).toNat)
 case atStart=>exact⟨0,zN,rfl,rfl⟩
 case round=>
  obtain⟨k,hk,rfl,hI⟩:=hrel;have HI:=uh hI;clear hI;by_cases bq:k<n
  rotate_left
  ·have HX:Hid (-1=Pl.ixI (Pl.di s kind name)):=by
    show _=_;obtain rfl:k=s.length:=by have:=HN.out;omega
    rw[Pl.CI HI.out];rfl
   go_wp2;go_ret;exact⟨Pl.dj HX.out,ti.out⟩
  have eB:k<s.length:=by have:=HN.out;omega
  rcases cN (HL.out.later ti.out) with⟨e0,_⟩|⟨p,o,c,hv,hp,dR,aE⟩
  ·omega
  rw[← HN.out]at hv dR;injection hv with g1 _ g3
  subst g1;subst g3;unfold maxLen at dR;obtain⟨ax,cx,dm,dH⟩:=aE k eB;have HM:=uh (fun (h:Pl.isB kind name (s.getD k Pl.aG)=false)=>Pl.zp eB HI.out h);have HH:=uh (fun (h:Pl.isB kind name (s.getD k Pl.aG)=true)=>Pl.Cu eB HI.out h);obtain⟨x,hx⟩:∃ x,x=s.getD k Pl.aG:=⟨_,rfl⟩
  rw[← hx]at dm dH HM HH;have y0:wa.cell? ⟨p,o+k*3,none⟩=some (.string x.kind):=aF dm 0 _ rfl;have y1:wa.cell? ⟨p,o+k*3+1,none⟩=some (.string x.name):=aF dm 1 _ rfl;have cZ:(0:Int)≤(k:Int):=by omega
  have dy:(k:Int)<(n:Int):=by omega
  have HB:Hid (Pl.isB kind name x=((x.kind.toList==kind.toList)&&(x.name.toList==name.toList))):=rfl;clear hx aE dm dH;cases h1:(x.kind.toList==kind.toList)
  ·have HX:=uh (HM.out (by rw[HB.out,h1];rfl));go_wp2;go_round
   case rel=>exact⟨k+1,by omega,by go_num,HX.out⟩
   case measure=>simp[intOf];omega
  cases h2:(x.name.toList==name.toList)
  ·have HX:=uh (HM.out (by rw[HB.out,h1,h2];rfl));go_wp2;go_round
   case rel=>exact⟨k+1,by omega,by go_num,HX.out⟩
   case measure=>simp[intOf];omega
  ·have HX:Hid ((k:Int)=Pl.ixI (Pl.di s kind name)):=by show _=_;rw[HH.out (by rw[HB.out,h1,h2];rfl)];rfl
   go_wp2;go_ret;exact⟨Pl.dj HX.out,ti.out⟩
structure Sv (wa W:World) (t:TypeId) (sh:List Sh) (v:Value) (n:Nat) (es:List Dt) (xs:List Value):Prop where
 row:W.ownsRow wa.heap.size t sh.length v n xs
 raw:Raw wa (bF n sh) es xs
theorem Sv.later {wa W W':World} {t:TypeId} {sh:List Sh} {v:Value} {n:Nat} {es:List Dt} {xs:List Value} (h:Sv wa W t sh v n es xs) (hb:Bel W W'):Sv wa W' t sh v n es xs:=⟨cD h.row hb,h.raw⟩
theorem Sv.emp {wa W:World} {g:Nat} {t:TypeId} (sh:List Sh) (hg:W.heap[g]? =some (.cells #[] t (0,0))) (hl:wa.heap.size≤g):Sv wa W t sh (.slice (some ⟨g,0,none⟩) 0 0) 0 [] []:=⟨(Gr.emp sh hg hl).row,.nil⟩
theorem Sv.shape {wa W:World} {t:TypeId} {sh:List Sh} {v:Value} {n:Nat} {es:List Dt} {xs:List Value} (h:Sv wa W t sh v n es xs):∃ a c,v=.slice a n c:=by
 rcases h.row.2 with⟨e,rfl⟩|⟨_,_,_,e,_⟩
 ·exact⟨_,_,e⟩
 ·exact⟨_,_,e⟩
theorem Sv.done {wa W:World} {t:TypeId} {sh:List Sh} {v:Value} {n:Nat} {es:List Dt} {xs:List Value} (h:Sv wa W t sh v n es xs) (hb:Bel wa W):Raw W [.row t sh] [.row n es] [v]:=by
 rcases h.row.2 with⟨rfl,rfl⟩|⟨g,cap,cur,rfl,q2,q3,q4,q5,q6,q7⟩
 ·have hr:=h.raw;rw[ff]at hr;cases hr
  exact .emp _ _ none 0 .nil
 ·refine .row t sh g 0 n cap xs es (Xh.1 q3).1 ⟨Xg q4 q5,q4⟩ ?_ (h.raw.later hb) .nil;intro j x hx;rw[← q7]at hx;have hl:j<n*sh.length:=by have:=(Xn.1 hx).1;rw[Xo]at this;omega
  rw[XM hl]at hx;rw[Xr];simp only[World.cell?,q3];simpa using hx
theorem Sv.below {wa W W':World} {t:TypeId} {sh:List Sh} {v:Value} {n:Nat} {es:List Dt} {xs:List Value} (h:Sv wa W t sh v n es xs) (hb:Bel wa W) (hg:W.grownBy W' v.ownBlock):Bel wa W':=
 dF hb hg fun _ hb=>(aW h.row hb).1
theorem vg {wa w:World} {ops:Array Oper} {rest:List Oper} {o:Oper} {a:Act} {Q:Exit→Act→World→Prop} (hgd:o.guard=none) (s x:Operand)
  (ho:o.op=.call {callee:=.builtin .append,args:=#[s,x],argTypes:=#[35,35]}) (v:Value) (n:Nat) (es:List Dt) (xs:List Value) (hs:a.eval s=v) (dN:Sv wa w 41 ao v n es xs)
  (B c:Nat) (e:List Dt) (cs:List Value) (hx:a.eval x=.slice (some ⟨B,0,none⟩) 1 c) (hr:Raw wa ao e cs) (hnews:∀ j u,cs[j]? =some u→w.cell? ((⟨B,0,none⟩:Addr).add j)=some u)
  (DU:n≤8388608) (cX:wa.heap.size≤w.heap.size)
  (h:∀ g cap w',Sv wa w' 41 ao (.slice (some ⟨g,0,none⟩) (n+1) cap) (n+1) (es++e) (xs++cs)→w.grownBy w' v.ownBlock→wpList Tryz.prog ops Q rest (a.put o.dst (.slice (some ⟨g,0,none⟩) (n+1) cap)) w'):wpList Tryz.prog ops Q (o::rest) a w:=by
 obtain⟨i0,hi,dp,eV,kD⟩:=i6 Tryz.ir;refine wpList_append_lies w hgd s x 35 ho wa.heap.size 41 i0 _ 2 40 Tryz.cI hi dp eV kD rfl (by omega) v n xs hs dN.row ⟨B,0,none⟩ 1 c cs hx (by rw[hr.len];rfl) hnews
  (fun u hu=>hr.one u hu) (by decide) (by unfold maxLen;omega) (by omega) cX _ rfl fun g cap w' q1 q2 _ _=>h g cap w' ⟨q1, ?_⟩ q2
 rw[gx];exact dN.raw.app hr
theorem ri (kind:ByteArray):∀ x∈Pl.ah kind,x.dflt.length≤4194304:=by
 unfold Pl.ah;split
 ·decide
 ·split
  ·decide
  ·split<;>decide
theorem Tryz.kV:Tryz.prog.elem 24=58:=by kernel_rfl
theorem Tryz.eJ:Tryz.prog.underlying 24=some (.slice (Tryz.prog.elem 24)):=by rw[Tryz.kV];exact Tryz.cW
structure Qt (w:World) (b0:Nat) (lv:Value) (xs:List Value) (W:World):Prop where
 bel:Bel w W
 box:aA W b0 26 [lv]
 arg:au W (b0+1) xs
 res:aA W (b0+2) 26 [.slice none 0 0]
theorem Qt.later {w W W':World} {b0:Nat} {lv:Value} {xs:List Value} (h:Qt w b0 lv xs W) (hb:Bel W W'):Qt w b0 lv xs W':=⟨ae h.bel hb,h.box.later hb,h.arg.later hb,h.res.later hb⟩
structure QtK (w:World) (b0:Nat) (n:Nat) (u:Value) (G:List Nat) (es:List Dt) (xs:List Value) (W:World):Prop where
 form:∃ g cap,u=.slice (some ⟨g,0,none⟩) (n+1) cap
 bel:Bel w W
 box:aA W b0 26 [u]
 res:aA W (b0+2) 26 [.slice none 0 0]
 row:W.ownsRow (b0+3) 58 3 u (n+1) xs
 rep:Rep W false (bF (n+1) aq) G es xs
theorem QtK.mk' {w Y:World} {b0 lo n g cap:Nat} {lv:Value} {G:List Nat} {es:List Dt} {xs ys:List Value} (hb:b0=w.heap.size) (h:Qt w b0 lv ys Y) (cX:b0+3≤lo) (ho:Y.ownsRow lo 58 3 (.slice (some ⟨g,0,none⟩) (n+1) cap) (n+1) xs) (hr:Rep Y false (bF (n+1) aq) G es xs) (hG:∀ b∈G,b<b0):
  QtK w b0 n (.slice (some ⟨g,0,none⟩) (n+1) cap) G es xs (Y.setCell ⟨b0,0,none⟩ (.slice (some ⟨g,0,none⟩) (n+1) cap)):=by
 have hm:Marks (fun b=>b=b0) Y (Y.setCell ⟨b0,0,none⟩ (.slice (some ⟨g,0,none⟩) (n+1) cap)):=Marks.sc (S:=fun b=>b=b0) Y rfl 0 _;exact⟨⟨g,cap,rfl⟩,hm.below (fun b e=>by omega) h.bel,h.box.set 0 _ (by simp),h.res.other (by omega) _ _,fV (qD ho cX) hm fun b hb e=>by omega,hr.cO hm fun b hb e=>by have:=hG b hb;omega⟩
theorem QtK.ans {w W we:World} {b0 n g cap:Nat} {G:List Nat} {l:List Pl.Bl} {xs:List Value} {S:Nat→Prop} (h:QtK w b0 n (.slice (some ⟨g,0,none⟩) (n+1) cap) G (l.flatMap blD) xs W) (hb:b0=w.heap.size) (hm:Marks (fun b=>b=b0+2) W we) (hG:∀ b∈G,b<b0) (hl:l.length=n+1) (hS:∀ b∈G,S b):
  Ha ee [cq l] S w (.returned (.agg #[.slice (some ⟨g,0,none⟩) (n+1) cap])) we:=by
 obtain⟨F,r,hF⟩:=ye (sh:=aq) (fV h.row hm fun b hb e=>by omega) (h.rep.cO hm fun b hb e=>by have:=hG b hb;omega);refine⟨[.slice (some ⟨g,0,none⟩) (n+1) cap],F++[],rfl, ?_,fun b hb=> ?_,hm.below (fun b e=>by omega) h.bel⟩
 ·unfold cq;rw[hl];exact pg r
 ·rw[Xl]at hb;rcases hF b hb with q|q
  ·exact Xk (by omega)
  ·exact No (hS b q)
def VIb (lv s1 s2:Value) (k b0:Nat) (X:Array Value):Nat→Value→Prop
 |1,u|9,u|14,u=>u=.pointer (some ⟨b0,0,none⟩)
 |2,u|10,u=>u=lv
 |3,u|11,u=>u=.int .i64 (k:Int)
 |4,u=>u=s1
 |6,u=>u=.agg X
 |12,u=>u=s2
 |_,_=>True
def VQa (va:Option Addr) (vc:Nat) (n:Nat) (k:Nat) (b0:Nat) (jj:Nat) (u:Value) (_:World):Prop:=match jj with
 |0=>u=.int .i64 (k:Int)
 |1=>u=.pointer (some ⟨b0,0,none⟩)
 |2=>u=.slice va n vc
 |3=>u=.int .i64 (n:Int)
 |4|5|13=>u=.bool false
 |6|7|8|9|10|11|12=>u=undef
 |_=>True
theorem Fl (va:Option Addr) (vc:Nat) (n:Nat) (k:Nat) (b0:Nat):∀ jj u W W',Bel W W'→VQa va vc n k b0 jj u W→VQa va vc n k b0 jj u W':=fun _ _ _ _ _ h=>h
def VQb (x:Pl.Bl) (y:Pl.Bl) (va:Option Addr) (xa:Option Addr) (ya:Option Addr) (vc:Nat) (xc:Nat) (yc:Nat) (p:Nat) (o:Nat) (n:Nat) (k:Nat) (b0:Nat) (jj:Nat) (u:Value) (_:World):Prop:=match jj with
 |0|8=>u=.int .i64 (k:Int)
 |1|6=>u=.pointer (some ⟨b0,0,none⟩)
 |2|7=>u=.slice va n vc
 |3=>u=.int .i64 (n:Int)
 |4|5|12|13=>u=.bool true
 |9=>u=.pointer (some ⟨p,o+k*3,none⟩)
 |10=>u=.agg #[.string y.kind,.string y.name,.slice ya y.lines.length yc]
 |11=>u=.agg #[.string x.kind,.string x.name,.slice xa x.lines.length xc]
 |_=>True
theorem Fc (x:Pl.Bl) (y:Pl.Bl) (va:Option Addr) (xa:Option Addr) (ya:Option Addr) (vc:Nat) (xc:Nat) (yc:Nat) (p:Nat) (o:Nat) (n:Nat) (k:Nat) (b0:Nat):∀ jj u W W',Bel W W'→VQb x y va xa ya vc xc yc p o n k b0 jj u W→VQb x y va xa ya vc xc yc p o n k b0 jj u W':=fun _ _ _ _ _ h=>h
def VQc (x:Pl.Bl) (y:Pl.Bl) (va:Option Addr) (xa:Option Addr) (ya:Option Addr) (vc:Nat) (xc:Nat) (yc:Nat) (p:Nat) (o:Nat) (n:Nat) (k:Nat) (b0:Nat) (jj:Nat) (u:Value) (_:World):Prop:=match jj with
 |0|8=>u=.int .i64 (k:Int)
 |1|6=>u=.pointer (some ⟨b0,0,none⟩)
 |2|7=>u=.slice va n vc
 |3=>u=.int .i64 (n:Int)
 |4|5=>u=.bool true
 |9=>u=.pointer (some ⟨p,o+k*3,none⟩)
 |10=>u=.agg #[.string y.kind,.string y.name,.slice ya y.lines.length yc]
 |11=>u=.agg #[.string x.kind,.string x.name,.slice xa x.lines.length xc]
 |12|13=>u=.bool false
 |_=>True
theorem ET (x:Pl.Bl) (y:Pl.Bl) (va:Option Addr) (xa:Option Addr) (ya:Option Addr) (vc:Nat) (xc:Nat) (yc:Nat) (p:Nat) (o:Nat) (n:Nat) (k:Nat) (b0:Nat):∀ jj u W W',Bel W W'→VQc x y va xa ya vc xc yc p o n k b0 jj u W→VQc x y va xa ya vc xc yc p o n k b0 jj u W':=fun _ _ _ _ _ h=>h
theorem vB (s:List Pl.Bl) (x:Pl.Bl) (lv wv:Value) (F Fx:List Nat) (w:World) (h:Rep w false bL F [cq s] [lv]) (hx:Rep w false aV Fx [bD x.lines] [wv]) (hl:s.length≤4194304):
  Calls Tryz.prog 16 #[.agg #[lv],.agg #[.string x.kind,.string x.name,wv]] w (Ha ee [cq (Pl.eR s x)] (fun q=>q∈F∨q∈Fx) w):=by
 obtain⟨i0,iK,dp,eV,kD⟩:=i6 Tryz.ka;obtain⟨va,vc,ev⟩:=h.raw.aT;obtain⟨xa,xc,ex⟩:=hx.raw.aT;subst ev;subst ex;obtain⟨n,hn⟩:∃ n,n=s.length:=⟨_,rfl⟩
 have HN:=uh hn;have O4:n≤4194304:=by omega
 obtain⟨b0,aU⟩:∃ b0,b0=w.heap.size:=⟨_,rfl⟩
 have fZ:=uh aU;have Ml:Hid (∀ q∈F,q<b0):=fun q hq=>by rw[aU];exact h.lt q hq
 have Eu:Hid (∀ q∈Fx++[],q<b0):=fun q hq=>by rw[aU];rw[Xl]at hq;exact hx.lt q hq
 have VR:=uh hx;have JL:Hid (Rep w false aq (Fx++[]) (blD x) [.string x.kind,.string x.name,.slice xa x.lines.length xc]):=cT x.kind x.name hx;have HL:=uh h;rw[← hn];rw[← hn]at HL;clear h hx hl hn;obtain⟨wa,aP⟩:∃ wa,wa=((w.alloc (.cells #[.slice va n vc] 26)).alloc (.cells #[.string x.kind,.string x.name,.slice xa x.lines.length xc] 58)).alloc (.cells #[.slice none 0 0] 26):=⟨_,rfl⟩
 have H0:Hid (Qt w b0 (.slice va n vc) [.string x.kind,.string x.name,.slice xa x.lines.length xc] wa):=by
  show Qt _ _ _ _ _;refine⟨?_, ?_, ?_, ?_⟩
  ·rw[aP];exact af (af (af zR _) _) _
  ·rw[aP,aU];exact(aA.new w [.slice va n vc] 26 _ rfl).later (af (af zR _) _)
  ·rw[aP,aU];exact(au.new (w.alloc (.cells #[.slice va n vc] 26)) #[.string x.kind,.string x.name,.slice xa x.lines.length xc] 58 _ (by simp)).eO _
  ·rw[aP,aU];exact aA.new ((w.alloc (.cells #[.slice va n vc] 26)).alloc (.cells #[.string x.kind,.string x.name,.slice xa x.lines.length xc] 58)) [.slice none 0 0] 26 _ (by simp)
 go_enter Tryz.func16,Tryz.ntmps16
 go_upto_region 1 with fail
 rw[← aP,← aU];clear aP aU;go_wp2;go_loopw [5] (fun vi wr=>∃ k:Nat,k≤n∧vi=.int .i64 k∧Qt w b0 (.slice va n vc) [.string x.kind,.string x.name,.slice xa x.lines.length xc] wr∧∀ j,j<k→Pl.ahead (s.getD j Pl.aG) x=true) (fun vi _=>n - (intOf vi).toNat)
 case atStart=>exact⟨0,zN,rfl,H0.out,fun j hj=>absurd hj (by omega)⟩
 case round=>
  obtain⟨k,hk,rfl,hO,hI⟩:=hrel;have HO:=uh hO;have HI:=uh hI;have Mq:=uh (fun hh=>Pl.wV Pl.aG (fun y=>Pl.ahead y x) s x k (by have:=HN.out;omega) hI hh);clear hO hI H0;by_cases bq:k<n
  rotate_left
  ·have Iz:¬ ((k:Int)<(n:Int)):=by omega
   have sf:Hid (Pl.eR s x=s.take k++x::s.drop k):=Mq.out (No (by have:=HN.out;omega));have kC:Hid ((Pl.eR s x).length=n+1):=by show _=_;rw[sf.out,At,Xm,Xo,Xy];have:=HN.out;omega
   go_upto_region 2 with fail
   refine RY.aM wr zR (VQa va vc n k b0) (Fl _ _ _ _ _) (by kernel_rfl) (by kernel_rfl) (by kernel_rfl) (by kernel_rfl) ?_ ?_
   ·intro i o' ho a X hX hk hd;have z2:=(HO.out.box.later hX).get 0 _ rfl;have rx:=(HO.out.arg.later hX).at_;match i,ho with
    |0,rfl=>
     exact RY.n (RY.p (.int .i64 (k:Int)) (by simp[execOp,go_sem,RY.K hk 5 (.int .i64 (k:Int))]))
    |1,rfl=>
     exact RY.n (RY.p (.pointer (some ⟨b0,0,none⟩)) (by simp[execOp,go_sem,RY.K hk 2 (.pointer (some ⟨b0,0,none⟩))]))
    |2,rfl=>
     exact RY.n (RY.p (.slice va n vc) (by simp[execOp,go_sem,RY.E hd 1 7,z2]))
    |3,rfl=>
     exact RY.n (RY.p (.int .i64 (n:Int)) (by simp[go_sem,RY.E hd 2 8]))
    |4,rfl=>
     exact RY.n (RY.p (.bool false) (by simp[execOp,go_sem,RY.E hd 0 6,RY.E hd 3 9,Iz]))
    |5,rfl=>
     exact RY.n (RY.p (.bool false) (by simp[execOp,go_sem,RY.E hd 4 10]))
    |6,rfl|7,rfl|8,rfl|9,rfl|10,rfl|11,rfl|12,rfl=>
     exact RY.off hd 5 11
    |13,rfl=>
     exact RY.n (RY.p (.bool false) (by simp[execOp,go_sem,RY.E hd 5 11,RY.E hd 12 18]))
    |n+14,ho=>simp at ho
   intro X vs hX bn;have q19:vs 19=_:=bn 13 _ 19 rfl rfl;simp only[RY.aC,Act.put,so,As,An];rw[q19];generalize vs 6=s6,vs 7=s7,vs 8=s8,vs 9=s9,vs 10=s10,vs 11=s11,vs 12=s12,vs 13=s13,vs 14=s14,vs 15=s15,vs 16=s16,vs 17=s17,vs 18=s18;clear bn q19;have fy:=uh (HO.out.later hX);clear hX HO;obtain⟨lv,yL⟩:∃ z,z=Value.slice va n vc:=⟨_,rfl⟩
   have jm:Hid (Rep X false bL F [cq s] [lv]):=by show Rep _ _ _ _ _ _;rw[yL];exact HL.out.later fy.out.bel
   rw[← yL]at fy;clear yL;obtain⟨s1,s2,vs,G,hR,wK,pc,uH,kj,Cj⟩:=qm (P:=Tryz.prog) (t:=24) Tryz.eJ (Tryz.kV ▸ iK) eV jm.out k (by have:=HN.out;omega);obtain⟨G2,mR,sF⟩:=qg (sh:=aq) blD nz (k:=k) (x:=x) (by have:=HN.out;omega) hR (JL.out.later fy.out.bel);have ik:vs.length=n*3:=by rw[hR.len,bU,← HN.out];rfl
   have O5:k*3≤n*3:=by omega
   rw[← sf.out]at mR;rw[← HN.out]at mR uH;have Bc:=uh kj;have y6:=uh Cj;have El:=uh pc;have yZ:=uh uH;have k6:Hid (∀ b∈G2,b<b0):=fun b hb=>by rcases sF b hb with h|h;exact Ml.out b (wK b h);exact Eu.out b h
   have I5:=uh sF;have PC:=uh wK;have gR:=uh mR;clear kj Cj pc uH hR wK mR sF jm;go_upto_region 4 with fail
   refine RY.jR X zR 58 3 k (k+1) (n+1) (vs.take (k*3)) (vs.take (k*3)++[.string x.kind,.string x.name,.slice xa x.lines.length xc]) (vs.take (k*3)++[.string x.kind,.string x.name,.slice xa x.lines.length xc]++vs.drop (k*3)) #[.string x.kind,.string x.name,.slice xa x.lines.length xc] (VIb lv s1 s2 k b0 #[.string x.kind,.string x.name,.slice xa x.lines.length xc]) (fun u W'=>QtK w b0 n u G2 ((Pl.eR s x).flatMap blD) (vs.take (k*3)++[.string x.kind,.string x.name,.slice xa x.lines.length xc]++vs.drop (k*3)) W') 12 22 27 29 30 35 36 (by kernel_rfl) (by kernel_rfl) (by kernel_rfl) (by kernel_rfl) (by kernel_rfl) rfl (by kernel_rfl) _ _ _ _ _ _ _ rfl rfl rfl rfl rfl rfl rfl rfl rfl rfl rfl rfl rfl rfl (by kernel_rfl) (by kernel_rfl) (by kernel_rfl) (by kernel_rfl) (by kernel_rfl) (by kernel_rfl) ?_ ?_ ?_ ?_ ?_ ?_ ?_ ?_ ?_
   ·intro i u h;rcases h with rfl|rfl|rfl|rfl|rfl<;>exact trivial
   ·intro i o' ho n0 n5 n7 n8 n13 n15 a Y hY hk hd;have z2:=(fy.out.box.later hY).get 0 _ rfl;have rx:=(fy.out.arg.later hY).at_;match i,ho with
    |0,ho=>exact absurd rfl n0
    |1,rfl|9,rfl|14,rfl=>
     exact⟨.pointer (some ⟨b0,0,none⟩),by simp[execOp,go_sem,RY.K hk 2 (.pointer (some ⟨b0,0,none⟩))],rfl⟩
    |2,rfl=>
     have e23:a.tmps[23]?.getD undef=_:=(RY.ai a 23).trans (hd 1 _ 23 rfl rfl ⟨⟨1,.data⟩,by simp,rfl,rfl⟩);exact⟨lv,by simp[execOp,go_sem,e23,z2],rfl⟩
    |3,rfl|11,rfl=>
     exact⟨.int .i64 (k:Int),by simp[execOp,go_sem,RY.K hk 5 (.int .i64 (k:Int))],rfl⟩
    |4,rfl=>
     have f24:a.eval (.tmp 24)=lv:=hd 2 _ 24 rfl rfl ⟨⟨2,.data⟩,by simp,rfl,rfl⟩;have f25:a.eval (.tmp 25)=.int .i64 (k:Int):=hd 3 _ 25 rfl rfl ⟨⟨3,.data⟩,by simp,rfl,rfl⟩;exact⟨s1,by simp[execOp,f24,f25,run_sliceAt_slice (P:=Tryz.prog) (w:=Y) 24 lv none (some (.int .i64 (k:Int))) none Tryz.eJ,Bc.out],rfl⟩
    |5,ho=>exact absurd rfl n5
    |6,rfl=>
     exact⟨.agg #[.string x.kind,.string x.name,.slice xa x.lines.length xc],ak 58 _ rfl (b0+1) 0 ((RY.ai a 3).symm.trans (RY.K hk 3 (.pointer (some ⟨b0+1,0,none⟩)))) [.string x.kind,.string x.name,.slice xa x.lines.length xc] _ rx Tryz.underlying58 rfl (by kernel_rfl),rfl⟩
    |7,ho=>exact absurd rfl n7
    |8,ho=>exact absurd rfl n8
    |10,rfl=>
     have e31:a.tmps[31]?.getD undef=_:=(RY.ai a 31).trans (hd 9 _ 31 rfl rfl ⟨⟨9,.data⟩,by simp,rfl,rfl⟩);exact⟨lv,by simp[execOp,go_sem,e31,z2],rfl⟩
    |12,rfl=>
     have f32:a.eval (.tmp 32)=lv:=hd 10 _ 32 rfl rfl ⟨⟨10,.data⟩,by simp,rfl,rfl⟩;have f33:a.eval (.tmp 33)=.int .i64 (k:Int):=hd 11 _ 33 rfl rfl ⟨⟨11,.data⟩,by simp,rfl,rfl⟩;exact⟨s2,by simp[execOp,f32,f33,run_sliceAt_slice (P:=Tryz.prog) (w:=Y) 24 lv (some (.int .i64 (k:Int))) none none Tryz.eJ,y6.out],rfl⟩
    |13,ho=>exact absurd rfl n13
    |15,ho=>exact absurd rfl n15
    |n+16,ho=>simp at ho
   ·intro a Y;simp[execOp,go_sem]
   ·intro a Y hd;have e28:a.tmps[28]?.getD undef=_:=(RY.ai a 28).trans (hd 6 _ 28 rfl rfl ⟨⟨6,.data⟩,by simp,rfl,rfl⟩);simp[execOp,go_sem,e28]
   ·intro a Y hY hd ho;have e26:=hd 4 _ 26 rfl rfl ⟨⟨4,.data⟩,by simp,rfl,rfl⟩;obtain⟨u,W',hr,hA⟩:=iU 24 24 58 i0 _ 3 56 Tryz.cW iK dp eV kD rfl (by decide) El.out hY ho (by unfold maxLen;omega) (by omega);rw[Xr,Yn]at hA;exact⟨u,W',aQ (.tmp 22) (.tmp 26) 24 rfl rfl e26 hr,hA⟩
   ·intro a Y hY ho q eq hq;obtain⟨u,W',hr,h2,h3,_,h5⟩:=run_append_own_at (P:=Tryz.prog) Y X.heap.size 24 24 58 i0 _ 3 56 Tryz.cW iK dp eV kD rfl (by decide) _ k _ ho ⟨q,0,none⟩ 1 1 [.string x.kind,.string x.name,.slice xa x.lines.length xc] rfl (fun j y hy=>by rw[Addr.add_mid,Xr];simp only[World.cell?,hq];simpa using hy) (by simp[Value.oneCell']) (by unfold maxLen;omega) (by omega) hY.size;exact⟨u,W',aQ (.tmp 27) (.tmp 29) 24 rfl rfl eq hr,h2,h3,h5⟩
   ·intro a Y hY hd ho;have e34:=hd 12 _ 34 rfl rfl ⟨⟨12,.data⟩,by simp,rfl,rfl⟩;obtain⟨u,W',hr,hA⟩:=iU 24 24 58 i0 _ 3 56 Tryz.cW iK dp eV kD rfl (by decide) yZ.out hY ho (by unfold maxLen;omega) (by omega);have en:k+1+(n - k)=n+1:=by omega
    rw[en]at hA;exact⟨u,W',aQ (.tmp 30) (.tmp 34) 24 rfl rfl e34 hr,hA⟩
   ·intro a Y hY PD ho;obtain⟨g,cap,eu,_,_⟩:=ho.form (by omega);have t35:=(RY.ai a 35).trans eu;have t36:a.tmps[36]?.getD undef=_:=(RY.ai a 36).trans PD;have B1:=fy.out.box.later hY;have z2:=B1.get 0 _ rfl;have zf:=B1.own.frozen 0;refine⟨Y.setCell ⟨b0,0,none⟩ (.slice (some ⟨g,0,none⟩) (n+1) cap),by simp[execOp,go_sem,t35,t36,z2,zf], ?_⟩;rw[eu]at ho ⊢;exact QtK.mk' fZ.out (fy.out.later hY) (by have:=fy.out.res.own.lt;omega) ho (gR.out.later hY) k6.out
   ·rintro vals W hK;simp only[RY.aC,Act.put,so,As,An];generalize vals 22=s22;generalize vals 23=s23;generalize vals 24=s24;generalize vals 25=s25;generalize vals 26=s26;generalize vals 27=s27;generalize vals 28=s28;generalize vals 29=s29;generalize vals 30=s30;generalize vals 31=sL;generalize vals 32=pS;generalize vals 33=pY;generalize vals 34=qo;generalize vals 35=nP at hK ⊢;generalize vals 36=mU;obtain⟨g,cap,eu⟩:=hK.form;subst eu;have HK:=uh hK;clear hK fy Bc y6 El yZ gR;go_upto_region 5 with fail
    have lF:=HK.out.box.at_;have iO:=HK.out.box.own.lt;have qv:=HK.out.res.own.lt;have bJ:W.there (b0+2) 0 (#[.slice (some ⟨g,0,none⟩) (n+1) cap]:Array Value).size:=aX HK.out.res.own _ _ (by simp);obtain⟨we,aZ⟩:∃ we,we=W.setCells (b0+2) 0 [.slice (some ⟨g,0,none⟩) (n+1) cap]:=⟨_,rfl⟩
    have dP:we.rangeAt (b0+2) 0 [.slice (some ⟨g,0,none⟩) (n+1) cap]:=by rw[aZ];exact World.rangeAt_setCells_same _ _ _ _ bJ
    have gT:Hid (Marks (fun b=>b=b0+2) W we):=by show Marks _ _ _;rw[aZ];exact bf (S:=fun b=>b=b0+2) rfl _ _ _
    go_wp2_with (first|(refine wpList_load_mid rfl 26 _ rfl b0 0 rfl [.slice (some ⟨g,0,none⟩) (n+1) cap] _ lF Tryz.underlying26 rfl (by kernel_rfl) ?_)|(refine wpList_store_mid rfl 26 _ _ rfl (b0+2) 0 #[.slice (some ⟨g,0,none⟩) (n+1) cap] rfl rfl bJ (by kernel_rfl) (by simp[Value.oneCell']) ?_))
    first|rw[← aZ]|(simp only[Xi];rw[← aZ])
    try simp only[Act.put]
    refine bodyPost_ret (v:=.agg #[.slice (some ⟨g,0,none⟩) (n+1) cap]) (by simp[results,Tryz.results16,asAddr,run_loadVar_mid (P:=Tryz.prog) _ _ _ 26 [.slice (some ⟨g,0,none⟩) (n+1) cap] _ dP Tryz.underlying26 rfl (by kernel_rfl)]) rfl ?_;exact HK.out.ans fZ.out gT.out k6.out kC.out (fun b hb=>by rcases I5.out b hb with h|h;exact No (PC.out b h);exact Xk (by simpa using h))
  have eB:k<s.length:=by have:=HN.out;omega
  rcases cN (HL.out.later HO.out.bel).raw with⟨e0,_⟩|⟨p,o,c,hv,hp,dR,aE⟩
  ·omega
  rw[← HN.out]at hv;injection hv with g1 _ g3
  subst g1;subst g3;obtain⟨ya,yc,ji,lQ⟩:=aE k eB;obtain⟨y,hy⟩:∃ y,y=s.getD k Pl.aG:=⟨_,rfl⟩
  rw[← hy]at ji lQ;have HY:=uh hy;have Cd:=uh ji;have de:=uh hp;have wG:=uh (VR.out.later HO.out.bel);have IP:=uh lQ;have Iz:(k:Int)<(n:Int):=by omega
  have cZ:(0:Int)≤(k:Int):=by omega
  have dy:(k:Int)<(n:Int):=by omega
  clear hy ji lQ hp aE dR;cases nK:Pl.ahead y x
  ·have jN:Hid (∀ X,Bel wr X→Calls Tryz.prog 38 #[.agg #[.string y.kind,.string y.name,.slice ya y.lines.length yc],.agg #[.string x.kind,.string x.name,.slice xa x.lines.length xc]] X fun e w'=>e=.returned (.bool false)∧Bel X w'):=fun X hX=>by
    have:=oG y x (.slice ya y.lines.length yc) (.slice xa x.lines.length xc) X;rwa [nK]at this
   have sf:Hid (Pl.eR s x=s.take k++x::s.drop k):=Mq.out (Xk (by rw[← HY.out];exact nK));have kC:Hid ((Pl.eR s x).length=n+1):=by show _=_;rw[sf.out,At,Xm,Xo,Xy];have:=HN.out;omega
   go_upto_region 2 with fail
   refine RY.aM wr zR (VQc x y (some ⟨p,o,none⟩) xa ya vc xc yc p o n k b0) (ET _ _ _ _ _ _ _ _ _ _ _ _ _) (by kernel_rfl) (by kernel_rfl) (by kernel_rfl) (by kernel_rfl) ?_ ?_
   ·intro i o' ho a X hX hk hd;have z2:=(HO.out.box.later hX).get 0 _ rfl;have rx:=(HO.out.arg.later hX).at_;have ry:=aj Cd.out de.out hX;match i,ho with
    |0,rfl=>
     exact RY.n (RY.p (.int .i64 (k:Int)) (by simp[execOp,go_sem,RY.K hk 5 (.int .i64 (k:Int))]))
    |1,rfl=>
     exact RY.n (RY.p (.pointer (some ⟨b0,0,none⟩)) (by simp[execOp,go_sem,RY.K hk 2 (.pointer (some ⟨b0,0,none⟩))]))
    |2,rfl=>
     exact RY.n (RY.p (.slice (some ⟨p,o,none⟩) n vc) (by simp[execOp,go_sem,RY.E hd 1 7,z2]))
    |3,rfl=>
     exact RY.n (RY.p (.int .i64 (n:Int)) (by simp[go_sem,RY.E hd 2 8]))
    |4,rfl=>
     exact RY.n (RY.p (.bool true) (by simp[execOp,go_sem,RY.E hd 0 6,RY.E hd 3 9,Iz]))
    |5,rfl=>
     exact RY.n (RY.p (.bool true) (by simp[execOp,go_sem,RY.E hd 4 10]))
    |6,rfl=>
     exact RY.on hd 5 11 (RY.p (.pointer (some ⟨b0,0,none⟩)) (by simp[execOp,go_sem,RY.K hk 2 (.pointer (some ⟨b0,0,none⟩))]))
    |7,rfl=>
     exact RY.on hd 5 11 (RY.p (.slice (some ⟨p,o,none⟩) n vc) (by simp[execOp,go_sem,RY.E hd 6 12,z2]))
    |8,rfl=>
     exact RY.on hd 5 11 (RY.p (.int .i64 (k:Int)) (by simp[execOp,go_sem,RY.K hk 5 (.int .i64 (k:Int))]))
    |9,rfl=>
     exact RY.on hd 5 11 (RY.p (.pointer (some ⟨p,o+k*3,none⟩)) (by simp[execOp,go_sem,RY.E hd 7 13,RY.E hd 8 14,cZ,dy]))
    |10,rfl=>
     have gd:=hd 5 _ 11 rfl rfl ⟨⟨5,.guard⟩,by simp,rfl,rfl⟩;exact No ⟨(RY.bg rfl rfl rfl gd).trans rfl,No ⟨.agg #[.string y.kind,.string y.name,.slice ya y.lines.length yc],X,ak 58 _ rfl p (o+k*3) ((RY.ai a 15).symm.trans (RY.E hd 9 15)) [.string y.kind,.string y.name,.slice ya y.lines.length yc] _ ry Tryz.underlying58 rfl (by kernel_rfl),zR,rfl⟩⟩
    |11,rfl=>
     have gd:=hd 5 _ 11 rfl rfl ⟨⟨5,.guard⟩,by simp,rfl,rfl⟩;exact No ⟨(RY.bg rfl rfl rfl gd).trans rfl,No ⟨.agg #[.string x.kind,.string x.name,.slice xa x.lines.length xc],X,ak 58 _ rfl (b0+1) 0 ((RY.ai a 3).symm.trans (RY.K hk 3 (.pointer (some ⟨b0+1,0,none⟩)))) [.string x.kind,.string x.name,.slice xa x.lines.length xc] _ rx Tryz.underlying58 rfl (by kernel_rfl),zR,rfl⟩⟩
    |12,rfl=>
     have e16:=RY.E hd 10 16;have e17:=RY.E hd 11 17;refine RY.on hd 5 11 (.inr ⟨38,#[.agg #[.string y.kind,.string y.name,.slice ya y.lines.length yc],.agg #[.string x.kind,.string x.name,.slice xa x.lines.length xc]],by simp[go_sem,e16,e17],(jN.out X hX).mono ?_⟩);rintro e W' ⟨rfl,hb⟩;exact⟨_,rfl,hb,rfl⟩
    |13,rfl=>
     exact RY.n (RY.p (.bool false) (by simp[execOp,go_sem,RY.E hd 5 11,RY.E hd 12 18]))
    |n+14,ho=>simp at ho
   intro X vs hX bn;have q19:vs 19=_:=bn 13 _ 19 rfl rfl;simp only[RY.aC,Act.put,so,As,An];rw[q19];generalize vs 6=s6,vs 7=s7,vs 8=s8,vs 9=s9,vs 10=s10,vs 11=s11,vs 12=s12,vs 13=s13,vs 14=s14,vs 15=s15,vs 16=s16,vs 17=s17,vs 18=s18;clear bn q19;have fy:=uh (HO.out.later hX);clear hX HO;obtain⟨lv,yL⟩:∃ z,z=Value.slice (some ⟨p,o,none⟩) n vc:=⟨_,rfl⟩
   have jm:Hid (Rep X false bL F [cq s] [lv]):=by show Rep _ _ _ _ _ _;rw[yL];exact HL.out.later fy.out.bel
   rw[← yL]at fy;clear yL;obtain⟨s1,s2,vs,G,hR,wK,pc,uH,kj,Cj⟩:=qm (P:=Tryz.prog) (t:=24) Tryz.eJ (Tryz.kV ▸ iK) eV jm.out k (by have:=HN.out;omega);obtain⟨G2,mR,sF⟩:=qg (sh:=aq) blD nz (k:=k) (x:=x) (by have:=HN.out;omega) hR (JL.out.later fy.out.bel);have ik:vs.length=n*3:=by rw[hR.len,bU,← HN.out];rfl
   have O5:k*3≤n*3:=by omega
   rw[← sf.out]at mR;rw[← HN.out]at mR uH;have Bc:=uh kj;have y6:=uh Cj;have El:=uh pc;have yZ:=uh uH;have k6:Hid (∀ b∈G2,b<b0):=fun b hb=>by rcases sF b hb with h|h;exact Ml.out b (wK b h);exact Eu.out b h
   have I5:=uh sF;have PC:=uh wK;have gR:=uh mR;clear kj Cj pc uH hR wK mR sF jm;go_upto_region 4 with fail
   refine RY.jR X zR 58 3 k (k+1) (n+1) (vs.take (k*3)) (vs.take (k*3)++[.string x.kind,.string x.name,.slice xa x.lines.length xc]) (vs.take (k*3)++[.string x.kind,.string x.name,.slice xa x.lines.length xc]++vs.drop (k*3)) #[.string x.kind,.string x.name,.slice xa x.lines.length xc] (VIb lv s1 s2 k b0 #[.string x.kind,.string x.name,.slice xa x.lines.length xc]) (fun u W'=>QtK w b0 n u G2 ((Pl.eR s x).flatMap blD) (vs.take (k*3)++[.string x.kind,.string x.name,.slice xa x.lines.length xc]++vs.drop (k*3)) W') 12 22 27 29 30 35 36 (by kernel_rfl) (by kernel_rfl) (by kernel_rfl) (by kernel_rfl) (by kernel_rfl) rfl (by kernel_rfl) _ _ _ _ _ _ _ rfl rfl rfl rfl rfl rfl rfl rfl rfl rfl rfl rfl rfl rfl (by kernel_rfl) (by kernel_rfl) (by kernel_rfl) (by kernel_rfl) (by kernel_rfl) (by kernel_rfl) ?_ ?_ ?_ ?_ ?_ ?_ ?_ ?_ ?_
   ·intro i u h;rcases h with rfl|rfl|rfl|rfl|rfl<;>exact trivial
   ·intro i o' ho n0 n5 n7 n8 n13 n15 a Y hY hk hd;have z2:=(fy.out.box.later hY).get 0 _ rfl;have rx:=(fy.out.arg.later hY).at_;match i,ho with
    |0,ho=>exact absurd rfl n0
    |1,rfl|9,rfl|14,rfl=>
     exact⟨.pointer (some ⟨b0,0,none⟩),by simp[execOp,go_sem,RY.K hk 2 (.pointer (some ⟨b0,0,none⟩))],rfl⟩
    |2,rfl=>
     have e23:a.tmps[23]?.getD undef=_:=(RY.ai a 23).trans (hd 1 _ 23 rfl rfl ⟨⟨1,.data⟩,by simp,rfl,rfl⟩);exact⟨lv,by simp[execOp,go_sem,e23,z2],rfl⟩
    |3,rfl|11,rfl=>
     exact⟨.int .i64 (k:Int),by simp[execOp,go_sem,RY.K hk 5 (.int .i64 (k:Int))],rfl⟩
    |4,rfl=>
     have f24:a.eval (.tmp 24)=lv:=hd 2 _ 24 rfl rfl ⟨⟨2,.data⟩,by simp,rfl,rfl⟩;have f25:a.eval (.tmp 25)=.int .i64 (k:Int):=hd 3 _ 25 rfl rfl ⟨⟨3,.data⟩,by simp,rfl,rfl⟩;exact⟨s1,by simp[execOp,f24,f25,run_sliceAt_slice (P:=Tryz.prog) (w:=Y) 24 lv none (some (.int .i64 (k:Int))) none Tryz.eJ,Bc.out],rfl⟩
    |5,ho=>exact absurd rfl n5
    |6,rfl=>
     exact⟨.agg #[.string x.kind,.string x.name,.slice xa x.lines.length xc],ak 58 _ rfl (b0+1) 0 ((RY.ai a 3).symm.trans (RY.K hk 3 (.pointer (some ⟨b0+1,0,none⟩)))) [.string x.kind,.string x.name,.slice xa x.lines.length xc] _ rx Tryz.underlying58 rfl (by kernel_rfl),rfl⟩
    |7,ho=>exact absurd rfl n7
    |8,ho=>exact absurd rfl n8
    |10,rfl=>
     have e31:a.tmps[31]?.getD undef=_:=(RY.ai a 31).trans (hd 9 _ 31 rfl rfl ⟨⟨9,.data⟩,by simp,rfl,rfl⟩);exact⟨lv,by simp[execOp,go_sem,e31,z2],rfl⟩
    |12,rfl=>
     have f32:a.eval (.tmp 32)=lv:=hd 10 _ 32 rfl rfl ⟨⟨10,.data⟩,by simp,rfl,rfl⟩;have f33:a.eval (.tmp 33)=.int .i64 (k:Int):=hd 11 _ 33 rfl rfl ⟨⟨11,.data⟩,by simp,rfl,rfl⟩;exact⟨s2,by simp[execOp,f32,f33,run_sliceAt_slice (P:=Tryz.prog) (w:=Y) 24 lv (some (.int .i64 (k:Int))) none none Tryz.eJ,y6.out],rfl⟩
    |13,ho=>exact absurd rfl n13
    |15,ho=>exact absurd rfl n15
    |n+16,ho=>simp at ho
   ·intro a Y;simp[execOp,go_sem]
   ·intro a Y hd;have e28:a.tmps[28]?.getD undef=_:=(RY.ai a 28).trans (hd 6 _ 28 rfl rfl ⟨⟨6,.data⟩,by simp,rfl,rfl⟩);simp[execOp,go_sem,e28]
   ·intro a Y hY hd ho;have e26:=hd 4 _ 26 rfl rfl ⟨⟨4,.data⟩,by simp,rfl,rfl⟩;obtain⟨u,W',hr,hA⟩:=iU 24 24 58 i0 _ 3 56 Tryz.cW iK dp eV kD rfl (by decide) El.out hY ho (by unfold maxLen;omega) (by omega);rw[Xr,Yn]at hA;exact⟨u,W',aQ (.tmp 22) (.tmp 26) 24 rfl rfl e26 hr,hA⟩
   ·intro a Y hY ho q eq hq;obtain⟨u,W',hr,h2,h3,_,h5⟩:=run_append_own_at (P:=Tryz.prog) Y X.heap.size 24 24 58 i0 _ 3 56 Tryz.cW iK dp eV kD rfl (by decide) _ k _ ho ⟨q,0,none⟩ 1 1 [.string x.kind,.string x.name,.slice xa x.lines.length xc] rfl (fun j y hy=>by rw[Addr.add_mid,Xr];simp only[World.cell?,hq];simpa using hy) (by simp[Value.oneCell']) (by unfold maxLen;omega) (by omega) hY.size;exact⟨u,W',aQ (.tmp 27) (.tmp 29) 24 rfl rfl eq hr,h2,h3,h5⟩
   ·intro a Y hY hd ho;have e34:=hd 12 _ 34 rfl rfl ⟨⟨12,.data⟩,by simp,rfl,rfl⟩;obtain⟨u,W',hr,hA⟩:=iU 24 24 58 i0 _ 3 56 Tryz.cW iK dp eV kD rfl (by decide) yZ.out hY ho (by unfold maxLen;omega) (by omega);have en:k+1+(n - k)=n+1:=by omega
    rw[en]at hA;exact⟨u,W',aQ (.tmp 30) (.tmp 34) 24 rfl rfl e34 hr,hA⟩
   ·intro a Y hY PD ho;obtain⟨g,cap,eu,_,_⟩:=ho.form (by omega);have t35:=(RY.ai a 35).trans eu;have t36:a.tmps[36]?.getD undef=_:=(RY.ai a 36).trans PD;have B1:=fy.out.box.later hY;have z2:=B1.get 0 _ rfl;have zf:=B1.own.frozen 0;refine⟨Y.setCell ⟨b0,0,none⟩ (.slice (some ⟨g,0,none⟩) (n+1) cap),by simp[execOp,go_sem,t35,t36,z2,zf], ?_⟩;rw[eu]at ho ⊢;exact QtK.mk' fZ.out (fy.out.later hY) (by have:=fy.out.res.own.lt;omega) ho (gR.out.later hY) k6.out
   ·rintro vals W hK;simp only[RY.aC,Act.put,so,As,An];generalize vals 22=s22;generalize vals 23=s23;generalize vals 24=s24;generalize vals 25=s25;generalize vals 26=s26;generalize vals 27=s27;generalize vals 28=s28;generalize vals 29=s29;generalize vals 30=s30;generalize vals 31=sL;generalize vals 32=pS;generalize vals 33=pY;generalize vals 34=qo;generalize vals 35=nP at hK ⊢;generalize vals 36=mU;obtain⟨g,cap,eu⟩:=hK.form;subst eu;have HK:=uh hK;clear hK fy Bc y6 El yZ gR;go_upto_region 5 with fail
    have lF:=HK.out.box.at_;have iO:=HK.out.box.own.lt;have qv:=HK.out.res.own.lt;have bJ:W.there (b0+2) 0 (#[.slice (some ⟨g,0,none⟩) (n+1) cap]:Array Value).size:=aX HK.out.res.own _ _ (by simp);obtain⟨we,aZ⟩:∃ we,we=W.setCells (b0+2) 0 [.slice (some ⟨g,0,none⟩) (n+1) cap]:=⟨_,rfl⟩
    have dP:we.rangeAt (b0+2) 0 [.slice (some ⟨g,0,none⟩) (n+1) cap]:=by rw[aZ];exact World.rangeAt_setCells_same _ _ _ _ bJ
    have gT:Hid (Marks (fun b=>b=b0+2) W we):=by show Marks _ _ _;rw[aZ];exact bf (S:=fun b=>b=b0+2) rfl _ _ _
    go_wp2_with (first|(refine wpList_load_mid rfl 26 _ rfl b0 0 rfl [.slice (some ⟨g,0,none⟩) (n+1) cap] _ lF Tryz.underlying26 rfl (by kernel_rfl) ?_)|(refine wpList_store_mid rfl 26 _ _ rfl (b0+2) 0 #[.slice (some ⟨g,0,none⟩) (n+1) cap] rfl rfl bJ (by kernel_rfl) (by simp[Value.oneCell']) ?_))
    first|rw[← aZ]|(simp only[Xi];rw[← aZ])
    try simp only[Act.put]
    refine bodyPost_ret (v:=.agg #[.slice (some ⟨g,0,none⟩) (n+1) cap]) (by simp[results,Tryz.results16,asAddr,run_loadVar_mid (P:=Tryz.prog) _ _ _ 26 [.slice (some ⟨g,0,none⟩) (n+1) cap] _ dP Tryz.underlying26 rfl (by kernel_rfl)]) rfl ?_;exact HK.out.ans fZ.out gT.out k6.out kC.out (fun b hb=>by rcases I5.out b hb with h|h;exact No (PC.out b h);exact Xk (by simpa using h))
  ·have jN:Hid (∀ X,Bel wr X→Calls Tryz.prog 38 #[.agg #[.string y.kind,.string y.name,.slice ya y.lines.length yc],.agg #[.string x.kind,.string x.name,.slice xa x.lines.length xc]] X fun e w'=>e=.returned (.bool true)∧Bel X w'):=fun X hX=>by
    have:=oG y x (.slice ya y.lines.length yc) (.slice xa x.lines.length xc) X;rwa [nK]at this
   have I5:Hid (∀ j,j<k+1→Pl.ahead (s.getD j Pl.aG) x=true):=fun j hj=>by
    by_cases e:j=k
    ·rw[e,← HY.out];exact nK
    ·exact HI.out j (by omega)
   go_upto_region 2 with fail
   refine RY.aM wr zR (VQb x y (some ⟨p,o,none⟩) xa ya vc xc yc p o n k b0) (Fc _ _ _ _ _ _ _ _ _ _ _ _ _) (by kernel_rfl) (by kernel_rfl) (by kernel_rfl) (by kernel_rfl) ?_ ?_
   ·intro i o' ho a X hX hk hd;have z2:=(HO.out.box.later hX).get 0 _ rfl;have rx:=(HO.out.arg.later hX).at_;have ry:=aj Cd.out de.out hX;match i,ho with
    |0,rfl=>
     exact RY.n (RY.p (.int .i64 (k:Int)) (by simp[execOp,go_sem,RY.K hk 5 (.int .i64 (k:Int))]))
    |1,rfl=>
     exact RY.n (RY.p (.pointer (some ⟨b0,0,none⟩)) (by simp[execOp,go_sem,RY.K hk 2 (.pointer (some ⟨b0,0,none⟩))]))
    |2,rfl=>
     exact RY.n (RY.p (.slice (some ⟨p,o,none⟩) n vc) (by simp[execOp,go_sem,RY.E hd 1 7,z2]))
    |3,rfl=>
     exact RY.n (RY.p (.int .i64 (n:Int)) (by simp[go_sem,RY.E hd 2 8]))
    |4,rfl=>
     exact RY.n (RY.p (.bool true) (by simp[execOp,go_sem,RY.E hd 0 6,RY.E hd 3 9,Iz]))
    |5,rfl=>
     exact RY.n (RY.p (.bool true) (by simp[execOp,go_sem,RY.E hd 4 10]))
    |6,rfl=>
     exact RY.on hd 5 11 (RY.p (.pointer (some ⟨b0,0,none⟩)) (by simp[execOp,go_sem,RY.K hk 2 (.pointer (some ⟨b0,0,none⟩))]))
    |7,rfl=>
     exact RY.on hd 5 11 (RY.p (.slice (some ⟨p,o,none⟩) n vc) (by simp[execOp,go_sem,RY.E hd 6 12,z2]))
    |8,rfl=>
     exact RY.on hd 5 11 (RY.p (.int .i64 (k:Int)) (by simp[execOp,go_sem,RY.K hk 5 (.int .i64 (k:Int))]))
    |9,rfl=>
     exact RY.on hd 5 11 (RY.p (.pointer (some ⟨p,o+k*3,none⟩)) (by simp[execOp,go_sem,RY.E hd 7 13,RY.E hd 8 14,cZ,dy]))
    |10,rfl=>
     have gd:=hd 5 _ 11 rfl rfl ⟨⟨5,.guard⟩,by simp,rfl,rfl⟩;exact No ⟨(RY.bg rfl rfl rfl gd).trans rfl,No ⟨.agg #[.string y.kind,.string y.name,.slice ya y.lines.length yc],X,ak 58 _ rfl p (o+k*3) ((RY.ai a 15).symm.trans (RY.E hd 9 15)) [.string y.kind,.string y.name,.slice ya y.lines.length yc] _ ry Tryz.underlying58 rfl (by kernel_rfl),zR,rfl⟩⟩
    |11,rfl=>
     have gd:=hd 5 _ 11 rfl rfl ⟨⟨5,.guard⟩,by simp,rfl,rfl⟩;exact No ⟨(RY.bg rfl rfl rfl gd).trans rfl,No ⟨.agg #[.string x.kind,.string x.name,.slice xa x.lines.length xc],X,ak 58 _ rfl (b0+1) 0 ((RY.ai a 3).symm.trans (RY.K hk 3 (.pointer (some ⟨b0+1,0,none⟩)))) [.string x.kind,.string x.name,.slice xa x.lines.length xc] _ rx Tryz.underlying58 rfl (by kernel_rfl),zR,rfl⟩⟩
    |12,rfl=>
     have e16:=RY.E hd 10 16;have e17:=RY.E hd 11 17;refine RY.on hd 5 11 (.inr ⟨38,#[.agg #[.string y.kind,.string y.name,.slice ya y.lines.length yc],.agg #[.string x.kind,.string x.name,.slice xa x.lines.length xc]],by simp[go_sem,e16,e17],(jN.out X hX).mono ?_⟩);rintro e W' ⟨rfl,hb⟩;exact⟨_,rfl,hb,rfl⟩
    |13,rfl=>
     exact RY.n (RY.p (.bool true) (by simp[execOp,go_sem,RY.E hd 5 11,RY.E hd 12 18]))
    |n+14,ho=>simp at ho
   intro X vs hX bn;have q19:vs 19=_:=bn 13 _ 19 rfl rfl;simp only[RY.aC,Act.put,so,As,An];rw[q19];generalize vs 6=s6,vs 7=s7,vs 8=s8,vs 9=s9,vs 10=s10,vs 11=s11,vs 12=s12,vs 13=s13,vs 14=s14,vs 15=s15,vs 16=s16,vs 17=s17,vs 18=s18;clear bn q19;have fy:=uh (HO.out.later hX);clear hX HO;go_wp2;go_roundw
   case rel=>exact⟨k+1,by omega,by go_num,fy.out,I5.out⟩
   case measure=>simp[intOf];omega
theorem Ar (b:Pl.Bl) (lv:Value) (key:ByteArray) (w:World) (h:Raw w aV [bD b.lines] [lv]) (hl:b.lines.length≤4194304) (hw:∀ x∈b.lines,x.ws.length≤4194304):
  Calls Tryz.prog 26 #[.agg #[.string b.kind,.string b.name,lv],.string key] w (eT aV (bD (Pl.aO b.lines key)) w):=by
 have HL:=uh h;have l4:=uh hw;obtain⟨va,vc,ev⟩:=h.aT;subst ev;clear h hw;obtain⟨l,wL⟩:∃ l,l=b.lines:=⟨_,rfl⟩
 rw[← wL]at HL l4 hl ⊢;clear wL;obtain⟨n,hn⟩:∃ n,n=l.length:=⟨_,rfl⟩
 have HN:=uh hn;have O4:n≤4194304:=by omega
 have gF:l.length=n:=hn.symm;clear hn hl;rw[gF];clear gF;obtain⟨wa,aP⟩:∃ wa,wa=w.alloc (.cells #[.string b.kind,.string b.name,.slice va n vc] 58):=⟨_,rfl⟩
 have ti:Hid (Bel w wa):=by show Below _ _ _;rw[aP];exact af zR _
 have dX:Hid (au wa w.heap.size [.string b.kind,.string b.name,.slice va n vc]):=by show au _ _ _;rw[aP];exact au.new w #[.string b.kind,.string b.name,.slice va n vc] _ _ rfl
 have JQ:=uh (HL.out.later ti.out);go_enter Tryz.func26,Tryz.ntmps26
 go_upto_region 1 with fail
 rw[← aP];clear aP;obtain⟨b0,aU⟩:∃ b0,b0=w.heap.size:=⟨_,rfl⟩
 rw[← aU]at dX ⊢;have fZ:=uh aU;clear aU;go_wp2;go_loopw [5,6] (fun vo vi wr=>∃ (k:Nat) (xs:List Value),k≤n∧vi=.int .i64 k∧Sv wa wr 41 ao vo (Pl.aO (l.take k) key).length ((Pl.aO (l.take k) key).flatMap lnD) xs∧Bel wa wr) (fun _ vi _=>n - (intOf vi).toNat)
 case atStart=>exact⟨0,[],zN,rfl,Sv.emp ao (heap_alloc_new wa _) zE,af zR _⟩
 case round=>
  obtain⟨k,xs,hk,rfl,hG,hB⟩:=hrel;have cV:=uh hG;have cB:=uh hB;obtain⟨ua,uc,sD⟩:=hG.shape;subst sD;have x2:=(dX.out.later hB).get 2 _ rfl;have xl:=(dX.out.later hB).lt;clear hG hB;by_cases bq:k<n
  rotate_left
  ·have jq:l.take k=l:=Xp (by have:=HN.out;omega);rw[jq]at cV ⊢;have HC:=uh (ow (Pl.aO l key) _ wr (cV.out.done cB.out) (Xg (Pl.gG _ _) (by have:=HN.out;omega)) (fun x hx=>l4.out x (YD.1 hx).1));clear jq;go_wp2_with fail
   refine HC.out.mono ?_;rintro e w1 ⟨v1,F,rfl,hr,nd,lo,hb⟩;have HD:Hid (eT aV (bD (Pl.aO l key)) w (.returned v1) w1):=⟨_,F,rfl,hr,nd,fun b hb=>Xg (Xg ti.out.size cB.out.size) (lo b hb),ae (ae ti.out cB.out) hb⟩
   clear hr nd lo hb;go_wp2;go_ret;exact HD.out
  have eB:k<l.length:=by have:=HN.out;omega
  rcases bO JQ.out with⟨e0,_⟩|⟨p,o,c,hv,hp,dR,aE⟩
  ·omega
  rw[← HN.out]at hv;injection hv with g1 _ g3
  subst g1;subst g3;obtain⟨aw,cw,dm,dH⟩:=aE k eB;have eU:=uh (Pl.vG (key:=key) eB);have hle:(Pl.aO (l.take k) key).length≤n:=Xg (Pl.gG _ _) (by rw[Xo];omega);obtain⟨x,hx⟩:∃ x,x=l.getD k Pl.aK:=⟨_,rfl⟩
  rw[← hx]at dm dH eU;have eC:wr.rangeAt p (o+k*2) [.string x.key,.slice aw x.ws.length cw]:=aj dm hp cB.out;have qn:Hid (Raw wa ao (lnD x) [.string x.key,.slice aw x.ws.length cw]):=.s _ dH;have y0:wr.cell? ⟨p,o+k*2,none⟩=some (.string x.key):=aF eC 0 _ rfl;obtain⟨m,hm⟩:∃ m,m=(Pl.aO (l.take k) key).length:=⟨_,rfl⟩
  rw[← hm]at cV hle ⊢;have HM:=uh hm;have cZ:(0:Int)≤(k:Int):=by omega
  have dy:(k:Int)<(n:Int):=by omega
  clear hx dm dH aE dR hp hm;cases hq:(x.key.toList==key.toList)
  ·have HE:Hid (Pl.aO (l.take (k+1)) key=Pl.aO (l.take k) key):=by show _=_;rw[eU.out,hq];rfl
   go_wp2;go_roundw
   case rel=>exact⟨k+1,xs,by omega,by go_num,by rw[HE.out,← HM.out];exact cV.out,cB.out⟩
   case measure=>simp[intOf];omega
  ·have HE:Hid (Pl.aO (l.take (k+1)) key=Pl.aO (l.take k) key++[x]):=by show _=_;rw[eU.out,hq];rfl
   go_wp2_with first|refine wpList_load_mid rfl 41 _ rfl p (o+k*2) rfl [.string x.key,.slice aw x.ws.length cw] _ eC Tryz.underlying41 rfl (by kernel_rfl) ?_|(refine vg (wa:=wa) rfl _ _ rfl (.slice ua m uc) m _ xs rfl (cV.out.later (af zR _)) wr.heap.size 1 (lnD x) [.string x.key,.slice aw x.ws.length cw] rfl qn.out (World.news_of_block (cs:=#[.string x.key,.slice aw x.ws.length cw]) (heap_alloc_new wr _)) (by omega) (Xg cB.out.size (by simp)) ?_;intro gg1 PW w1 q1 q2;have HQ:=uh (Xt q1 (cV.out.later (af zR _)|>.below (af cB.out _) q2));clear q1 q2)
   go_roundw
   case rel=>exact⟨k+1,_,by omega,by go_num,by rw[HE.out,At,← HM.out,Xv,XE];exact HQ.out.1,HQ.out.2⟩
   case measure=>simp[intOf];omega
def Dat (S:Nat→Prop) (B lo:Nat) (W:World) (sh:List Sh) (A:List Dt) (c:List Value):Prop:=∃ F,Rep W false sh F A c∧∀ b∈F,(S b∧b<B)∨lo≤b
theorem Dat.later {S:Nat→Prop} {B lo:Nat} {W W':World} {sh:List Sh} {A:List Dt} {c:List Value} (h:Dat S B lo W sh A c) (hb:Bel W W'):Dat S B lo W' sh A c:=by
 obtain⟨F,r,f⟩:=h;exact⟨F,r.later hb,f⟩
theorem Dat.cO {S T:Nat→Prop} {B lo:Nat} {W W':World} {sh:List Sh} {A:List Dt} {c:List Value} (h:Dat S B lo W sh A c) (hb:Marks T W W') (hT:∀ b,T b→B≤b∧b<lo):Dat S B lo W' sh A c:=by
 obtain⟨F,r,f⟩:=h;refine⟨F,r.cO hb fun b gY e=> ?_,f⟩;have:=hT b e;rcases f b gY with q|q<;>omega
theorem Dat.raw {S:Nat→Prop} {B lo:Nat} {W:World} {sh:List Sh} {A:List Dt} {c:List Value} (h:Dat S B lo W sh A c):Raw W sh A c:=by
 obtain⟨F,r,f⟩:=h;exact r.raw
theorem J9 {S:Nat→Prop} {F:List Nat} {B lo:Nat} {w:World} {sh:List Sh} {A:List Dt} {c:List Value} (h:Rep w false sh F A c) (hF:∀ b∈F,lo≤b):Dat S B lo w sh A c:=⟨F,h,fun b hb=>Xk (hF b hb)⟩
theorem vS {S:Nat→Prop} {B lo:Nat} {w:World} {t:TypeId} {sh:List Sh}:Dat S B lo w [.row t sh] [.row 0 []] [.slice none 0 0]:=⟨[],.emp _ _ _ rfl .nil,by simp⟩
def GD (S:Nat→Prop) (B lo:Nat) (sh:List Sh) (A:List Dt) (W:World) (e:Ending) (w':World):Prop:=∃ c,e=.returned (.agg c.toArray)∧Dat S B lo w' sh A c∧Bel W w'
theorem wT {S:Nat→Prop} {B lo:Nat} {sh:List Sh} {A:List Dt} {W w':World} {e:Ending} {T:Nat→Prop} (h:Ha sh A T W e w') (hT:∀ b,T b→(S b∧b<B)∨lo≤b) (hl:lo≤W.heap.size):GD S B lo sh A W e w':=by
 obtain⟨c,F,he,r,f,hb⟩:=h;refine⟨c,he,⟨F,r,fun b hb=> ?_⟩,hb⟩;rcases f b hb with q|q
 ·exact hT b q
 ·exact Xk (by omega)
theorem jy {S:Nat→Prop} {B lo:Nat} {W:World} {b:Pl.Bl} {c:List Value} (h:Dat S B lo W aq (blD b) c):∃ a m,c=[.string b.kind,.string b.name,.slice a b.lines.length m]∧Dat S B lo W aV [bD b.lines] [.slice a b.lines.length m]:=by
 obtain⟨F,r,f⟩:=h;obtain⟨F2,v2,hF,hc,r2⟩:=jc r;subst hc;obtain⟨a,m,rfl⟩:=r2.raw.aT;refine⟨a,m,rfl,F2,r2,fun b hb=>f b ?_⟩;rw[hF];simp[hb]
theorem tG {S:Nat→Prop} {B lo:Nat} {W:World} {s:List Pl.Bl} {c:List Value} (h:Dat S B lo W ee [cq s] c):∃ a m,c=[.slice a s.length m]∧Dat S B lo W bL [cq s] [.slice a s.length m]:=by
 obtain⟨F,r,f⟩:=h;obtain⟨F2,v2,hF,hc,r2⟩:=ix r;subst hc;obtain⟨a,m,rfl⟩:=r2.raw.aT;refine⟨a,m,rfl,F2,r2,fun b hb=>f b ?_⟩;rw[hF];simp[hb]
theorem fH {S:Nat→Prop} {B lo:Nat} {W:World} {k n:ByteArray} {l:List Pl.Ln} {v:Value} (h:Dat S B lo W aV [bD l] [v]):Dat S B lo W aq (blD ⟨k,n,l⟩) [.string k,.string n,v]:=by
 obtain⟨F,r,f⟩:=h;exact⟨F++[],cT k n r,fun b hb=>f b (by simpa using hb)⟩
theorem Rep.elE {w:World} {tt:Bool} {n q:Nat} {sh:List Sh} {G:List Nat} {es:List Dt} {vs:List Value} (h:Rep w tt (bF n sh) G es vs) (hq:q<n) {p o:Nat} (hr:w.rangeAt p o vs):∃ ve G',Rep w tt sh G' (Go.Proofs.YtgiglpnaekbegaaGreatDoor.el sh.length q es) ve∧w.rangeAt p (o+q*sh.length) ve∧∀ b∈G',b∈G:=by
 rw[mV hq]at h;obtain⟨F1,F2,d1,d2,c1,c2,rfl,rfl,rfl,h1,h2⟩:=Rep.cut _ h;obtain⟨F3,F4,d3,d4,c3,c4,rfl,rfl,rfl,h3,h4⟩:=Rep.cut _ h2;rw[zS (by rw[h1.raw.typ.len,bU]) h3.raw.typ.len];refine⟨c3,F3,h3, ?_,fun b hb=>by simp[hb]⟩;have:=(gU (gU hr).2).1;rwa [h1.len,bU]at this
theorem kS {S:Nat→Prop} {B lo:Nat} (b:Pl.Bl) (x:Pl.Ln) (lv wv:Value) (w:World) (h:Dat S B lo w aV [bD b.lines] [lv]) (hx:Dat S B lo w bm [.row x.ws.length (txD x.ws)] [wv]) (hl:b.lines.length≤4194304) (cX:lo≤w.heap.size):
  Calls Tryz.prog 27 #[.agg #[.string b.kind,.string b.name,lv],.agg #[.string x.key,wv]] w (GD S B lo aq (blD ⟨b.kind,b.name,Pl.bS b.kind b.lines x⟩) w):=by
 obtain⟨F,r,f⟩:=h;obtain⟨Fx,rx,fx⟩:=hx;exact(x9 b x lv wv F Fx w r rx hl).mono fun e w' h=>wT h (fun b hb=>hb.elim (f b) (fx b)) cX
theorem vu {S:Nat→Prop} {B lo:Nat} (s:List Pl.Bl) (x:Pl.Bl) (lv wv:Value) (w:World) (h:Dat S B lo w bL [cq s] [lv]) (hx:Dat S B lo w aV [bD x.lines] [wv]) (hl:s.length≤4194304) (cX:lo≤w.heap.size):
  Calls Tryz.prog 16 #[.agg #[lv],.agg #[.string x.kind,.string x.name,wv]] w (GD S B lo ee [cq (Pl.eR s x)] w):=by
 obtain⟨F,r,f⟩:=h;obtain⟨Fx,rx,fx⟩:=hx;exact(vB s x lv wv F Fx w r rx hl).mono fun e w' h=>wT h (fun b hb=>hb.elim (f b) (fx b)) cX
namespace Pl
theorem uu (k:ByteArray) (l:List Ln) (x:Ln):(bS k l x).length=l.length+1:=by
 have:=Yu (p:=fun y=>aL k y x) (l:=l);have h2:(l.takeWhile fun y=>aL k y x).length+(l.dropWhile fun y=>aL k y x).length=l.length:=by rw[← At,this]
 simp only[bS,putAt,At,Xm];omega
theorem Cx (l:List Bl) (x:Bl):(eR l x).length=l.length+1:=by
 have:=Yu (p:=fun y=>ahead y x) (l:=l);have h2:(l.takeWhile fun y=>ahead y x).length+(l.dropWhile fun y=>ahead y x).length=l.length:=by rw[← At,this]
 simp only[eR,putAt,At,Xm];omega
theorem lz (k:ByteArray) (l:List Ln) (x y:Ln):y∈bS k l x↔y=x∨y∈l:=by
 have:=Yu (p:=fun y=>aL k y x) (l:=l);rw[bS,putAt,XC,XD];conv=>rhs;rw[← this,XC]
 constructor<;>(rintro(h|h|h)<;>simp[h])
theorem tN (l:List Bl) (x y:Bl):y∈eR l x↔y=x∨y∈l:=by
 have:=Yu (p:=fun y=>ahead y x) (l:=l);rw[eR,putAt,XC,XD];conv=>rhs;rw[← this,XC]
 constructor<;>(rintro(h|h|h)<;>simp[h])
end Pl
theorem Dat.shift {S:Nat→Prop} {B lo pb:Nat} {W:World} {sh:List Sh} {A:List Dt} {c:List Value} (h:Dat S B lo W sh A c) (hp:W.heap.size≤pb) (lo':Nat):Dat (fun b=>(S b∧b<B)∨lo≤b) pb lo' W sh A c:=by
 obtain⟨F,r,f⟩:=h;exact⟨F,r,fun b hb=>No ⟨f b hb,zL (r.lt b hb) hp⟩⟩
theorem Dat.back {S:Nat→Prop} {B lo pb lo':Nat} {W:World} {sh:List Sh} {A:List Dt} {c:List Value} (h:Dat (fun b=>(S b∧b<B)∨lo≤b) pb lo' W sh A c) (hl:lo≤lo'):Dat S B lo W sh A c:=by
 obtain⟨F,r,f⟩:=h;refine⟨F,r,fun b hb=> ?_⟩;rcases f b hb with q|q
 ·exact q.1
 ·exact Xk (by omega)
namespace Pl
def je (s:List Bl) (b:Bl):Bool:=(di s b.kind b.name).isNone
theorem zv {l:List Bl} {p:Bl→Bool} {k:Nat} (hk:k<l.length):(l.take (k+1)).filter p=if p (l.getD k aG) then (l.take k).filter p++[l.getD k aG] else (l.take k).filter p:=by
 rw[cp aG l k hk,List.filter_append,List.filter_cons,List.filter_nil];split<;>simp
theorem fh {s:List Bl} (h:bw s=true):s.length≤60:=by
 unfold bw at h;simp only[Xj,decide_eq_true_eq]at h;exact h.1
end Pl
structure Sm (m:Nat) (b:Pl.Bl):Prop where
 nm:b.name.size≤maxLen
 ln:b.lines.length≤m
 ws:∀ x∈b.lines,x.ws.length≤4194304∧∀ t∈x.ws,t.size≤maxLen
theorem QO {m:Nat} {s:List Pl.Bl} (h:∀ b∈s,Sm m b):oi s:=fun b hb=>⟨(h b hb).nm,fun x hx=>((h b hb).ws x hx).2⟩
theorem sm_at {m:Nat} {s:List Pl.Bl} (h:∀ b∈s,Sm m b) {k:Nat} (hk:k<s.length):Sm m (s.getD k Pl.aG):=by
 have e:s.getD k Pl.aG=s[k]:=by simp[hk]
 rw[e];exact h _ (Xq hk)
theorem Kv {o:Option Nat}:(decide (Pl.ixI o<0))=o.isNone:=by
 cases o with
 |none=>rfl
 |some n=>exact decide_eq_false (by show ¬ ((n:Int)<0);omega)
end Go.Proofs.YtgiglpnaekbegaaGreatDoor
