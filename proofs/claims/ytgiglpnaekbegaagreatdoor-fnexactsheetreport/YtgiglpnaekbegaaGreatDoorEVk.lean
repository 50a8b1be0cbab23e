import Derived.Test.YtgiglpnaekbegaaGreatDoorEVj
namespace Go.Proofs.YtgiglpnaekbegaaGreatDoor
set_option maxRecDepth 8000
set_option maxHeartbeats 40000000
open Go.RowKit Go.Deep
def VRa (xc:Nat) (yc:Nat) (xa:Option Addr) (ya:Option Addr) (s1:List Pl.Bl) (s2:List Pl.Bl) (f1:List Pl.Bl) (f2:List Pl.Bl) (dd:List Pl.Ch):Nat→Value→World→Prop
 |0,vv,_=>vv=.agg #[.slice xa s1.length xc]
 |1,vv,W=>∃ v,vv=.agg #[v]∧Raw W bL [cq f1] [v]
 |2,vv,_=>vv=.agg #[.slice ya s2.length yc]
 |3,vv,W=>∃ v,vv=.agg #[v]∧Raw W bL [cq f2] [v]
 |4,vv,W|5,vv,W=>∃ y1 y2,vv=.slice y1 dd.length y2∧Raw W fq [kK dd] [.slice y1 dd.length y2]
 |_,_,_=>True
theorem GN (xc:Nat) (yc:Nat) (xa:Option Addr) (ya:Option Addr) (s1:List Pl.Bl) (s2:List Pl.Bl) (f1:List Pl.Bl) (f2:List Pl.Bl) (dd:List Pl.Ch):∀ jj vv W W',Bel W W'→VRa xc yc xa ya s1 s2 f1 f2 dd jj vv W→VRa xc yc xa ya s1 s2 f1 f2 dd jj vv W':=by
 intro jj vv W W' hb h;match jj with
 |0|2=>exact h
 |1|3=>
  obtain⟨v,h1,h2⟩:=h;exact⟨v,h1,h2.later hb⟩
 |4|5=>
  obtain⟨y1,y2,h1,h2⟩:=h;exact⟨y1,y2,h1,h2.later hb⟩
 |n+6=>exact trivial
def VRb (b12:Nat) (wn:Nat) (ch:Pl.Ch) (T0:ByteArray) (sg:ByteArray):Nat→Value→World→Prop
 |0,vv,_=>vv=.string T0
 |1,vv,W=>∃ g,vv=.slice (some ⟨g,0,none⟩) 5 5∧g<W.heap.size∧W.rangeAt g wn [.string sg]
 |2,vv,_=>vv=.pointer (some ⟨b12,0,none⟩)
 |3,vv,_=>vv=.int .i64 (wn:Int)
 |4,vv,W=>∃ g,vv=.pointer (some ⟨g,wn,none⟩)∧g<W.heap.size∧W.rangeAt g wn [.string sg]
 |5,vv,_=>vv=.string sg
 |6,vv,_=>vv=.string (T0++sg)
 |7,vv,_=>vv=.string (T0++sg++(⟨#[32]⟩:ByteArray))
 |8,vv,_=>vv=.pointer (some ⟨b12,1,none⟩)
 |9,vv,_=>vv=.string ch.kind
 |10,vv,_=>vv=.string (T0++sg++(⟨#[32]⟩:ByteArray)++ch.kind)
 |11,vv,_=>vv=.string (T0++sg++(⟨#[32]⟩:ByteArray)++ch.kind++(⟨#[32]⟩:ByteArray))
 |12,vv,_=>vv=.pointer (some ⟨b12,2,none⟩)
 |13,vv,_=>vv=.string ch.name
 |_,_,_=>True
theorem Gs (b12:Nat) (wn:Nat) (ch:Pl.Ch) (T0:ByteArray) (sg:ByteArray):∀ jj vv W W',Bel W W'→VRb b12 wn ch T0 sg jj vv W→VRb b12 wn ch T0 sg jj vv W':=by
 intro jj vv W W' hb h;match jj with
 |0|2|3|5|6|7|8|9|10|11|12|13=>exact h
 |1|4=>
  obtain⟨g,h1,h2,h3⟩:=h;exact⟨g,h1,zL h2 hb.size,aj h3 h2 hb⟩
 |n+14=>exact trivial
theorem vd (a b:ByteArray) (w:World) (ha:a.size≤1048576) (hb:b.size≤1048576):
  Calls Tryz.prog 4 #[.string a,.string b] w fun e w'=>e=.returned (.string (Pl.fN a b))∧Bel w w':=by
 obtain⟨R,hR⟩:∃ R,R=Pl.fN a b:=⟨_,rfl⟩
 rw[← hR];obtain⟨s1,l1,c1,h1⟩:∃ s l c,Pl.aI a=(s,l,c):=⟨_,_,_,rfl⟩
 obtain⟨s2,l2,c2,h2⟩:∃ s l c,Pl.aI b=(s,l,c):=⟨_,_,_,rfl⟩
 have HR:Hid (R=if c1≠0 then Pl.iw Pl.CA l1 c1 else if c2≠0 then Pl.iw Pl.CD l2 c2 else Pl.C2 (Pl.bY (Pl.bN s1) (Pl.bN s2))):=by show R=_;rw[hR,Pl.fN,h1,h2]
 have ld:Hid (∀ X,Calls Tryz.prog 6 #[.string a] X (zu (s1,l1,c1) X)):=fun X=>by rw[← h1];exact pz a X ha
 have kY:Hid (∀ X,Calls Tryz.prog 6 #[.string b] X (zu (s2,l2,c2) X)):=fun X=>by rw[← h2];exact pz b X hb
 have AR:Hid (c1≤11∧l1≤1000000000):=by have:=Pl.np a;rw[h1]at this;exact this
 have sn:Hid (c2≤11∧l2≤1000000000):=by have:=Pl.np b;rw[h2]at this;exact this
 have AU:Hid (∀ z∈s1,z.lines.length≤400∧Pl.OkB z):=by have:=Pl.iZ a;rw[h1]at this;exact this
 have fy:Hid (∀ z∈s2,z.lines.length≤400∧Pl.OkB z):=by have:=Pl.iZ b;rw[h2]at this;exact this
 clear hR h1 h2 ha hb;go_enter Tryz.func4,Tryz.ntmps4
 go_wp2_with fail
 refine(ld.out _).mono ?_;rintro e w1 ⟨c,F,rfl,r,_,_,cr⟩;obtain⟨v0,hc,r0⟩:=jD r.raw;subst hc;obtain⟨xa,xc,hx⟩:=r0.aT;subst hx;have HX:=uh r0;have HB:=uh cr;clear r r0 cr ld;obtain⟨b5,oZ⟩:∃ z,z=w1.heap.size:=⟨_,rfl⟩
 obtain⟨w2,fw⟩:∃ z,z=(w1.alloc (.cells #[.slice xa s1.length xc] 26)).alloc (.cells #[.int .i64 (l1:Nat),.int .i64 (c1:Nat)] 28):=⟨_,rfl⟩
 have hq:Bel w1 w2:=by rw[fw];exact af (af zR _) _
 have uT:Hid (au w2 b5 [.slice xa s1.length xc]):=by show au _ _ _;rw[fw,oZ];exact(au.new w1 #[.slice xa s1.length xc] _ _ rfl).eO _
 have AK:Hid (au w2 (b5+1) [.int .i64 (l1:Nat),.int .i64 (c1:Nat)]):=by show au _ _ _;rw[fw];exact au.new _ #[.int .i64 (l1:Nat),.int .i64 (c1:Nat)] _ _ (by simp[oZ])
 go_upto_region 2 with fail
 rw[← fw,← oZ];clear fw oZ;replace HB:=uh (ae HB.out hq)
 replace HX:=uh (HX.out.later hq)
 clear hq;have y0:=AK.out.get 1 _ rfl;have yl:=AK.out.lt;by_cases hc0:c1=0
 rotate_left
 ·have HE:Hid (R=Pl.iw Pl.CA l1 c1):=by show R=_;rw[HR.out];rw[if_pos hc0]
  have OQ:¬ ((c1:Nat):Int)=0:=by omega
  have Ce:=uh (uk Pl.CA l1 c1 AR.out.1 AR.out.2 (by decide) w2);rw[← HE.out]at Ce;have ya:=AK.out.at_;clear hc0;go_wp2_with (first|(refine wpList_load_mid rfl 28 _ rfl (b5+1) 0 rfl [.int .i64 (l1:Nat),.int .i64 (c1:Nat)] _ ya Tryz.underlying28 rfl (by kernel_rfl) ?_)|(go_at_call 7;refine Ce.out.mono ?_;rintro e wz ⟨rfl,DS⟩))
  go_ret;exact⟨rfl,ae HB.out DS⟩
 subst hc0;clear AK;have Rj:Hid ((0:Nat)=0):=rfl;go_wp2_with fail
 refine(kY.out _).mono ?_;rintro e w3 ⟨c,F,rfl,r,_,_,cr⟩;obtain⟨v0,hc,r0⟩:=jD r.raw;subst hc;obtain⟨ya,yc,hx⟩:=r0.aT;subst hx;have HY:=uh r0;replace HX:=uh (HX.out.later cr)
 replace HB:=uh (ae HB.out cr)
 replace uT:=uh (uT.out.later cr)
 clear r r0 cr kY y0 yl;obtain⟨b7,oW⟩:∃ z,z=w3.heap.size:=⟨_,rfl⟩
 obtain⟨w4,p4⟩:∃ z,z=(w3.alloc (.cells #[.slice ya s2.length yc] 26)).alloc (.cells #[.int .i64 (l2:Nat),.int .i64 (c2:Nat)] 28):=⟨_,rfl⟩
 have hq:Bel w3 w4:=by rw[p4];exact af (af zR _) _
 have OT:Hid (au w4 b7 [.slice ya s2.length yc]):=by show au _ _ _;rw[p4,oW];exact(au.new w3 #[.slice ya s2.length yc] _ _ rfl).eO _
 have IL:Hid (au w4 (b7+1) [.int .i64 (l2:Nat),.int .i64 (c2:Nat)]):=by show au _ _ _;rw[p4];exact au.new _ #[.int .i64 (l2:Nat),.int .i64 (c2:Nat)] _ _ (by simp[oW])
 go_upto_region 5 with fail
 rw[← p4,← oW];clear p4 oW;replace HB:=uh (ae HB.out hq)
 replace HY:=uh (HY.out.later hq)
 replace uT:=uh (uT.out.later hq)
 replace HX:=uh (HX.out.later hq)
 clear hq;have y0:=IL.out.get 1 _ rfl;have yl:=IL.out.lt;by_cases hc0:c2=0
 rotate_left
 ·have HE:Hid (R=Pl.iw Pl.CD l2 c2):=by show R=_;rw[HR.out];rw[if_neg (by simp),if_pos hc0]
  have OQ:¬ ((c2:Nat):Int)=0:=by omega
  have Ce:=uh (uk Pl.CD l2 c2 sn.out.1 sn.out.2 (by decide) w4);rw[← HE.out]at Ce;have ya:=IL.out.at_;clear hc0;go_wp2_with (first|(refine wpList_load_mid rfl 28 _ rfl (b7+1) 0 rfl [.int .i64 (l2:Nat),.int .i64 (c2:Nat)] _ ya Tryz.underlying28 rfl (by kernel_rfl) ?_)|(go_at_call 7;refine Ce.out.mono ?_;rintro e wz ⟨rfl,DS⟩))
  go_ret;exact⟨rfl,ae HB.out DS⟩
 subst hc0;clear IL AR sn;obtain⟨f1,DJ⟩:∃ z,z=Pl.bN s1:=⟨_,rfl⟩
 obtain⟨f2,Iv⟩:∃ z,z=Pl.bN s2:=⟨_,rfl⟩
 obtain⟨dd,lZ⟩:∃ z,z=Pl.bY f1 f2:=⟨_,rfl⟩
 have HE:Hid (R=Pl.C2 dd):=by show R=_;rw[HR.out,if_neg (by simp),if_neg (by simp),← DJ,← Iv,← lZ]
 have Jm:Hid (∀ X,Bel w4 X→Calls Tryz.prog 9 #[.agg #[.slice xa s1.length xc]] X (Ans ee [cq f1] X)):=fun X hX=>by rw[DJ];exact qy s1 _ X (HX.out.later hX) (Pl.Me AU.out)
 have I7:Hid (∀ X,Bel w4 X→Calls Tryz.prog 9 #[.agg #[.slice ya s2.length yc]] X (Ans ee [cq f2] X)):=fun X hX=>by rw[Iv];exact qy s2 _ X (HY.out.later hX) (Pl.Me fy.out)
 have ok1:∀ z∈f1,Pl.OkB z:=by rw[DJ];exact Pl.j6 AU.out
 have ok2:∀ z∈f2,Pl.OkB z:=by rw[Iv];exact Pl.j6 fy.out
 have gE:Hid (∀ X v1 v2,Raw X bL [cq f1] [v1]→Raw X bL [cq f2] [v2]→Calls Tryz.prog 8 #[.agg #[v1],.agg #[v2]] X (eT fq (kK dd) X)):=fun X v1 v2 q1 q2=>by rw[lZ];exact zI f1 f2 v1 v2 X q1 q2 (Pl.tD ok1) (Pl.tD ok2) (Pl.vq ok1) (Pl.vq ok2)
 have wA:Hid (∀ c∈dd,Pl.SmC c):=by show ∀ c∈dd,_;rw[lZ];exact Pl.BA ok1 ok2
 have kC:Hid (dd.length≤1000):=by show _≤_;rw[lZ];exact Pl.qZ f1 f2
 clear ok1 ok2 DJ Iv lZ HR AU fy HX HY;go_upto_region 7 with fail
 clear y0 yl;refine RY.bs w4 zR (VRa xc yc xa ya s1 s2 f1 f2 dd) (GN _ _ _ _ _ _ _ _ _) (by kernel_rfl) (by kernel_rfl) (by kernel_rfl) (by kernel_rfl) ?_ ?_
 ·intro ii o' ho a X hX hk hd;have zb5:=uT.out.later hX;have zb5l:=zb5.lt;have zb7:=OT.out.later hX;have zb7l:=zb7.lt;match ii,ho with
  |0,rfl=>
   have v5:a.eval (.tmp 5)=.pointer (some ⟨b5,0,none⟩):=(hk 5 (by kernel_rfl)).trans rfl;exact No ⟨_,X,ak 26 _ rfl b5 0 v5 [.slice xa s1.length xc] _ zb5.at_ Tryz.underlying26 rfl (by kernel_rfl),zR,rfl⟩
  |1,rfl=>
   have e35:=RY.E hd 0 35;refine Xk ⟨9,#[.agg #[.slice xa s1.length xc]],by simp[go_sem,e35],(Jm.out X hX).mono ?_⟩;rintro e W' ⟨c,F,rfl,r,nd,fr,hb⟩;obtain⟨v0,hc,r0⟩:=jD r.raw;subst hc;exact⟨_,rfl,hb,v0,rfl,r0⟩
  |2,rfl=>
   have v7:a.eval (.tmp 7)=.pointer (some ⟨b7,0,none⟩):=(hk 7 (by kernel_rfl)).trans rfl;exact No ⟨_,X,ak 26 _ rfl b7 0 v7 [.slice ya s2.length yc] _ zb7.at_ Tryz.underlying26 rfl (by kernel_rfl),zR,rfl⟩
  |3,rfl=>
   have e37:=RY.E hd 2 37;refine Xk ⟨9,#[.agg #[.slice ya s2.length yc]],by simp[go_sem,e37],(I7.out X hX).mono ?_⟩;rintro e W' ⟨c,F,rfl,r,nd,fr,hb⟩;obtain⟨v0,hc,r0⟩:=jD r.raw;subst hc;exact⟨_,rfl,hb,v0,rfl,r0⟩
  |4,rfl=>
   obtain⟨v36,q36,VZ⟩:=hd 1 _ 36 rfl rfl ⟨⟨1,.data⟩,by simp,rfl,rfl⟩;have e36:a.tmps[36]?.getD undef=.agg #[v36]:=(RY.ai a 36).trans q36;obtain⟨v38,q38,VT⟩:=hd 3 _ 38 rfl rfl ⟨⟨3,.data⟩,by simp,rfl,rfl⟩;have e38:a.tmps[38]?.getD undef=.agg #[v38]:=(RY.ai a 38).trans q38;refine Xk ⟨8,#[.agg #[v36],.agg #[v38]],by simp[go_sem,e36,e38],(gE.out X v36 v38 VZ VT).mono ?_⟩;rintro e W' ⟨v,F,rfl,r,nd,fr,hb⟩;obtain⟨x1,x2,hx⟩:=r.raw.aT;subst hx;exact⟨_,rfl,hb,x1,x2,rfl,r.raw⟩
  |5,rfl=>
   obtain⟨y1,y2,q39,Pw⟩:=hd 4 _ 39 rfl rfl ⟨⟨4,.data⟩,by simp,rfl,rfl⟩;have e39:a.tmps[39]?.getD undef=.slice y1 dd.length y2:=(RY.ai a 39).trans q39;exact No ⟨_,X,by simp[execOp,go_sem,e39],zR,y1,y2,rfl,Pw⟩
  |n+6,ho=>simp at ho
 intro X vs hX bn;obtain⟨da,dc,q9,hR9⟩:=bn 5 _ 9 rfl rfl;simp only[RY.aC,Act.put,so,As,An];generalize vs 35=nP,vs 36=mU,vs 37=nS,vs 38=mT,vs 39=nW;rw[q9];clear bn;have HR9:=uh hR9;replace HB:=uh (ae HB.out hX)
 clear hX hR9 Jm I7 gE uT OT q9 Rj;obtain⟨n,hn⟩:∃ n,n=dd.length:=⟨_,rfl⟩
 have HN:=uh hn;have e1:dd.length=n:=hn.symm;clear hn;rw[e1];rw[e1]at kC;clear e1;go_wp2;go_loopw [10,11] (fun vo vi wr=>∃ (k:Nat) (T:ByteArray),k≤n∧vi=.int .i64 k∧vo=.string T∧T.data.toList=Pl.kb dd k∧Bel X wr) (fun _ vi _=>n - (intOf vi).toNat)
 case atStart=>exact⟨0,⟨#[]⟩,zN,rfl,rfl,rfl,zR⟩
 case round=>
  obtain⟨k,T,hk,rfl,rfl,hT,hW⟩:=hrel;have HT:=uh hT;have HW:=uh hW;clear hT hW;by_cases bq:k<n
  rotate_left
  ·obtain rfl:k=n:=by omega
   by_cases hz:T.size=0
   ·have ht:T=⟨#[]⟩:=by
     cases T with
     |mk d=>exact congrArg ByteArray.mk (Array.size_eq_zero_iff.1 hz)
    subst ht;have zd:Hid (R=Pl.L9):=by
     show R=_;rw[HE.out,Pl.C2,← HN.out,← HT.out];rfl
    clear hz;go_wp2;go_ret;exact⟨by rw[zd.out];rfl,ae HB.out HW.out⟩
   ·have zd:Hid (R=T):=by
     show R=_;rw[HE.out,Pl.C2,← HN.out,← HT.out,if_neg (by rw[Pl.aD];exact hz),Pl.back]
    have dr:T.toList.isEmpty=false:=by
     cases he:T.toList with
     |nil=>exact absurd (by rw[← Pl.mW,he];rfl) hz
     |cons x l=>rfl
    clear hz;go_wp2;go_ret;exact⟨by rw[zd.out];rfl,ae HB.out HW.out⟩
  have eB:k<dd.length:=by have:=HN.out;omega
  rcases yy (HR9.out.later HW.out) with⟨e0,_⟩|⟨p,o,c,hv,hp,dR,aE⟩
  ·omega
  rw[← HN.out]at hv dR;injection hv with g1 _ g3
  subst g1;subst g3;unfold maxLen at dR;obtain⟨la,lc,dm,dH⟩:=aE k eB;obtain⟨ch,DO⟩:∃ z,z=dd.getD k Pl.ie:=⟨_,rfl⟩
  have nQ:Hid (Pl.SmC ch):=by
   show Pl.SmC ch;have e:dd.getD k Pl.ie=dd[k]:=by simp[eB]
   rw[DO,e];exact wA.out _ (Xq eB)
  have HN1:Hid (Pl.kb dd (k+1)=Pl.kb dd k++Pl.chT ch):=by show _=_;rw[Pl.kb,← DO]
  have jm:Hid ((Pl.kb dd k).length≤100000000000):=by have h1:=Pl.yt dd wA.out k (by omega);have:=kC.out;show _≤_;omega
  rw[← DO]at dm dH;obtain⟨wn,zg⟩:∃ wn:Nat,ch.what=wn:=⟨ch.what.toNat,by have:=nQ.out.w1;omega⟩
  have JC:wn≤4:=by have:=nQ.out.w4;omega
  rw[zg]at dm;obtain⟨sM,nM⟩:∃ z,z=wr.alloc (.cells #[.int .i64 (wn:Nat),.string ch.kind,.string ch.name,.string ch.key,.slice la ch.lines.length lc] 37):=⟨_,rfl⟩
  obtain⟨b12,wi⟩:∃ z,z=wr.heap.size:=⟨_,rfl⟩
  have jh:Bel wr sM:=by rw[nM];exact af zR _
  have vZ:Hid (au sM b12 [.int .i64 (wn:Nat),.string ch.kind,.string ch.name,.string ch.key,.slice la ch.lines.length lc]):=by show au _ _ _;rw[nM,wi];exact au.new wr #[.int .i64 (wn:Nat),.string ch.kind,.string ch.name,.string ch.key,.slice la ch.lines.length lc] _ _ rfl
  have qn:=uh (dH.later jh);obtain⟨sg,Lf⟩:∃ z,z=Pl.uF ch.what:=⟨_,rfl⟩
  have Av:sg.size≤1:=by rw[Lf];exact Pl.rV _
  have D1:Hid (∀ X:World,(X.alloc (.cells #[.string {data:=#[]},.string {data:=#[45]},.string {data:=#[43]},.string {data:=#[126]},.string {data:=#[126]}] 9)).rangeAt X.heap.size wn [.string sg]):=fun X j u hu=>by
   cases j with
   |zero=>
    injection hu with hu
    rw[← hu,Lf,zg];exact Hp Pl.lU X wn (by show wn<5;omega)
   |succ j=>simp at hu
  obtain⟨P0,WK⟩:∃ z,z=Pl.kb dd k++Pl.hdT ch++Pl.unT ch:=⟨_,rfl⟩
  have Tx:=uh WK;have Mq:Hid (P0.length≤200000000000):=by
   have h1:=jm.out;have h2:=Pl.qe nQ.out;have h3:=Pl.vP nQ.out;show _≤_;rw[WK];simp only[At];omega
  have wD:=uh zg;have Ut:=uh Lf;have hzt:T.size≤100000000000:=by rw[← Pl.aD,HT.out];exact jm.out
  have hzk:=nQ.out.kd;have hzn:=nQ.out.nm;have hzy:=nQ.out.ky;have cZ:(0:Int)≤(k:Int):=by omega
  have dy:(k:Int)<(n:Int):=by omega
  clear aE DO dH zg Lf WK;go_upto_region 13 with(refine wpList_load_mid rfl 37 _ rfl p (o+k*5) rfl [.int .i64 (wn:Nat),.string ch.kind,.string ch.name,.string ch.key,.slice la ch.lines.length lc] _ dm Tryz.underlying37 rfl (by kernel_rfl) ?_)
  rw[← nM,← wi];clear nM wi dm cZ dy;have cZ:(0:Int)≤(wn:Int):=by omega
  have dy:(wn:Int)<5:=by omega
  obtain⟨T0,EA⟩:∃ z,z=T:=⟨_,rfl⟩
  rw[← EA]at HT hzt ⊢;clear EA;refine RY.eY sM zR (VRb b12 wn ch T0 sg) (Gs _ _ _ _ _) (fun u W'=>u=.string (T0++sg++(⟨#[32]⟩:ByteArray)++ch.kind++(⟨#[32]⟩:ByteArray)++ch.name)∧Bel sM W') 14 16 64 10 (by kernel_rfl) (by kernel_rfl) (by kernel_rfl) (by kernel_rfl) (by kernel_rfl) rfl (by kernel_rfl) _ _ rfl rfl rfl rfl rfl (by kernel_rfl) ?_ ?_ ?_
  ·intro ii o' ho wJ a X hX hk hd;have zb12:=vZ.out.later hX;have zb12l:=zb12.lt;match ii,ho with
   |0,rfl=>
    have e10:a.tmps[10]?.getD undef=.string T0:=(RY.ai a 10).trans ((hk 10 (RY.aS (by kernel_rfl))).trans rfl);exact RY.p (.string T0) (by simp[execOp,go_sem,e10])
   |1,rfl=>
    exact No ⟨.slice (some ⟨X.heap.size,0,none⟩) 5 5,X.alloc (.cells #[.string {data:=#[]},.string {data:=#[45]},.string {data:=#[43]},.string {data:=#[126]},.string {data:=#[126]}] 9),by simp[execOp,go_sem],af zR _,X.heap.size,rfl,by simp,D1.out X⟩
   |2,rfl=>
    have e12:a.tmps[12]?.getD undef=.pointer (some ⟨b12,0,none⟩):=(RY.ai a 12).trans ((hk 12 (RY.aS (by kernel_rfl))).trans rfl);exact RY.p (.pointer (some ⟨b12,0,none⟩)) (by simp[execOp,go_sem,e12])
   |3,rfl=>
    have e52:=RY.E1 hd 2 52;have ycl_:=zb12.get 0 _ rfl;exact RY.p (.int .i64 (wn:Int)) (by simp[execOp,go_sem,e52,ycl_])
   |4,rfl=>
    obtain⟨g51,q51,VP,V0⟩:=hd 1 _ 51 rfl rfl ⟨⟨1,.data⟩,by simp,rfl,rfl⟩ (by decide);have e51:a.tmps[51]?.getD undef=.slice (some ⟨g51,0,none⟩) 5 5:=(RY.ai a 51).trans q51;exact No ⟨.pointer (some ⟨g51,wn,none⟩),X,by simp[execOp,go_sem,e51,RY.E1 hd 3 53,cZ,dy],zR,g51,rfl,VP,V0⟩
   |5,rfl=>
    obtain⟨g54,q54,hl54,WH⟩:=hd 4 _ 54 rfl rfl ⟨⟨4,.data⟩,by simp,rfl,rfl⟩ (by decide);have e54:a.tmps[54]?.getD undef=.pointer (some ⟨g54,wn,none⟩):=(RY.ai a 54).trans q54;have ycl_:X.cell? ⟨g54,wn,none⟩=some (.string sg):=by have q:=aF WH 0 _ rfl;simpa using q
    exact RY.p (.string sg) (by simp[execOp,go_sem,e54,ycl_])
   |6,rfl=>
    have e50:=RY.E1 hd 0 50;have e55:=RY.E1 hd 5 55;refine No ⟨.string (T0++sg),X, ?_,zR,rfl⟩;simp[execOp,go_sem,e50,e55];try omega
   |7,rfl=>
    have e56:=RY.E1 hd 6 56;refine No ⟨.string (T0++sg++(⟨#[32]⟩:ByteArray)),X, ?_,zR,rfl⟩;simp[execOp,go_sem,e56];try omega
   |8,rfl=>
    have e12:a.tmps[12]?.getD undef=.pointer (some ⟨b12,0,none⟩):=(RY.ai a 12).trans ((hk 12 (RY.aS (by kernel_rfl))).trans rfl);exact RY.p (.pointer (some ⟨b12,1,none⟩)) (by simp[execOp,go_sem,e12])
   |9,rfl=>
    have e58:=RY.E1 hd 8 58;have ycl_:=zb12.get 1 _ rfl;exact RY.p (.string ch.kind) (by simp[execOp,go_sem,e58,ycl_])
   |10,rfl=>
    have e57:=RY.E1 hd 7 57;have e59:=RY.E1 hd 9 59;refine No ⟨.string (T0++sg++(⟨#[32]⟩:ByteArray)++ch.kind),X, ?_,zR,rfl⟩;simp[execOp,go_sem,e57,e59];try omega
   |11,rfl=>
    have e60:=RY.E1 hd 10 60;refine No ⟨.string (T0++sg++(⟨#[32]⟩:ByteArray)++ch.kind++(⟨#[32]⟩:ByteArray)),X, ?_,zR,rfl⟩;simp[execOp,go_sem,e60];try omega
   |12,rfl=>
    have e12:a.tmps[12]?.getD undef=.pointer (some ⟨b12,0,none⟩):=(RY.ai a 12).trans ((hk 12 (RY.aS (by kernel_rfl))).trans rfl);exact RY.p (.pointer (some ⟨b12,2,none⟩)) (by simp[execOp,go_sem,e12])
   |13,rfl=>
    have e62:=RY.E1 hd 12 62;have ycl_:=zb12.get 2 _ rfl;exact RY.p (.string ch.name) (by simp[execOp,go_sem,e62,ycl_])
   |n+14,ho=>omega
  ·intro a X hX hk hd;have e61:=RY.E1 hd 11 61;have e63:=RY.E1 hd 13 63;refine⟨.string (T0++sg++(⟨#[32]⟩:ByteArray)++ch.kind++(⟨#[32]⟩:ByteArray)++ch.name),X, ?_,rfl,hX⟩;simp[execOp,go_sem,e61,e63];try omega
  intro vs X2 hK hE;simp only[RY.aC,Act.put,so,As,An];obtain⟨q64,PT⟩:=hK;rw[hE,q64];generalize vs 50=Cn,vs 51=s51,vs 52=s52,vs 53=s53,vs 54=s54,vs 55=s55,vs 56=s56,vs 57=s57,vs 58=s58,vs 59=s59,vs 60=s60,vs 61=s61,vs 62=s62,vs 63=s63;clear cZ dy;replace vZ:=uh (vZ.out.later PT)
  replace qn:=uh (qn.out.later PT)
  have eM:=uh (ae jh PT);clear PT jh q64 hE;obtain⟨T1,Vq⟩:∃ z,z=T0++sg++(⟨#[32]⟩:ByteArray)++ch.kind++(⟨#[32]⟩:ByteArray)++ch.name:=⟨_,rfl⟩
  rw[← Vq];have LP:Hid (T1.data.toList=Pl.kb dd k++Pl.hdT ch):=by
   show _=_;rw[Vq,Pl.hdT,← Ut.out];simp[ByteArray.data_append,HT.out,List.append_assoc]
  have eV:T1.size≤200000000000:=by
   have h2:=Pl.qe nQ.out;have h1:=jm.out;rw[← Pl.aD,LP.out,At];omega
  clear Vq;have x0:=vZ.out.get 0 _ rfl;have x3:=vZ.out.get 3 _ rfl;have x4:=vZ.out.get 4 _ rfl;have xl:=vZ.out.lt;by_cases h4:wn=4
  ·have PN:Hid ((T1++(⟨#[58,32,110,111,32]⟩:ByteArray)++ch.key).data.toList=P0):=by
    show _=_;rw[Tx.out,Pl.unT,if_pos (by rw[wD.out,h4];rfl)];simp[ByteArray.data_append,LP.out,List.append_assoc]
   have h4i:(wn:Int)=4:=by omega
   subst h4;clear h4i;go_wp2;go_loopw [10,13] (fun vo vi wr=>∃ (j:Nat) (T2:ByteArray),j≤ch.lines.length∧vi=.int .i64 j∧vo=.string T2∧T2.data.toList=P0++Pl.ej ch.lines j∧Bel X2 wr) (fun _ vi _=>ch.lines.length - (intOf vi).toNat)
   case atStart=>exact⟨0,_,zN,rfl,rfl,by rw[Pl.ej,Xl];exact PN.out,zR⟩
   case round=>
    obtain⟨j,T2,hj,rfl,rfl,KW,Lu⟩:=hrel;have Jt:=uh KW;have iS:=uh Lu;have x4:=(vZ.out.later Lu).get 4 _ rfl;have xl:=(vZ.out.later Lu).lt;have kD:T2.size≤2000000000000:=by
     have h1:=Mq.out;have h2:=Pl.ju ch.lines nQ.out.ws j hj;have h3:=nQ.out.ln;rw[← Pl.aD,KW,At];omega
    clear KW Lu;by_cases su:j<ch.lines.length
    rotate_left
    ·obtain rfl:j=ch.lines.length:=by omega
     have HF:Hid ((T2++(⟨#[10]⟩:ByteArray)).data.toList=Pl.kb dd (k+1)):=by
      show _=_;rw[HN1.out,Pl.chT,XK,Array.toList_append,Jt.out,Tx.out];simp[List.append_assoc]
     go_wp2;go_roundw
     case rel=>
      repeat apply Exists.intro
      refine⟨⟨k+1,_,by omega,by go_num,rfl,HF.out,ae HW.out (ae eM.out iS.out)⟩,rfl⟩
     case measure=>simp[intOf];omega
    rcases bO (qn.out.later iS.out) with⟨e0,_⟩|⟨p2,o2,cc2,iH,tA,IA,iJ⟩
    ·omega
    injection iH with g1 _ g3
    subst g1;subst g3;obtain⟨a2,c2,gh,yI⟩:=iJ j su;obtain⟨x,hx⟩:∃ z,z=ch.lines.getD j Pl.aK:=⟨_,rfl⟩
    have Si:=nQ.out.ws (ch.lines.getD j Pl.aK) (by
     have e:ch.lines.getD j Pl.aK=ch.lines[j]:=by simp[su]
     rw[e];exact Xq su)
    rw[← hx]at gh yI Si;have jN:=uh (xC x a2 c2 wr yI (by omega));have hzl:(Pl.gp x).length≤40000:=by have:=Pl.oN x;omega
    have cZ:(0:Int)≤(j:Int):=by omega
    have dy:(j:Int)<(ch.lines.length:Int):=by omega
    unfold maxLen at IA;clear iJ yI Si;by_cases h0:j=0
    ·subst h0;have fS:Hid (Pl.ej ch.lines (0+1)=Pl.ej ch.lines 0++([58,32]++Pl.gp x)):=by show _=_;rw[hx];rfl
     clear hx;go_wp2_with (first|(refine wpList_load_mid rfl 41 _ rfl p2 (o2+0*2) rfl [.string x.key,.slice a2 x.ws.length c2] _ gh Tryz.underlying41 rfl (by kernel_rfl) ?_)|(go_at_call 10;refine jN.out.mono ?_;rintro e w5 ⟨rfl,oZ⟩))
     go_roundw
     case rel=>exact⟨0+1,_,by omega,by go_num,rfl,by rw[fS.out];simp[ByteArray.data_append,Jt.out,List.append_assoc],ae iS.out oZ⟩
     case measure=>simp[intOf];omega
    ·have Rf:¬ ((j:Nat):Int)=0:=by omega
     have fS:Hid (Pl.ej ch.lines (j+1)=Pl.ej ch.lines j++([44,32]++Pl.gp x)):=by show _=_;rw[Pl.ej,← hx];unfold Pl.vE;rw[if_neg h0]
     clear hx h0;go_wp2_with (first|(refine wpList_load_mid rfl 41 _ rfl p2 (o2+j*2) rfl [.string x.key,.slice a2 x.ws.length c2] _ gh Tryz.underlying41 rfl (by kernel_rfl) ?_)|(go_at_call 10;refine jN.out.mono ?_;rintro e w5 ⟨rfl,oZ⟩))
     go_roundw
     case rel=>exact⟨j+1,_,by omega,by go_num,rfl,by rw[fS.out];simp[ByteArray.data_append,Jt.out,List.append_assoc],ae iS.out oZ⟩
     case measure=>simp[intOf];omega
  ·have PN:Hid (T1.data.toList=P0):=by
    show _=_;rw[Tx.out,Pl.unT,if_neg (by rw[wD.out];omega),Xl,LP.out]
   have h4i:¬ (wn:Int)=4:=by omega
   clear h4;go_wp2;go_loopw [10,13] (fun vo vi wr=>∃ (j:Nat) (T2:ByteArray),j≤ch.lines.length∧vi=.int .i64 j∧vo=.string T2∧T2.data.toList=P0++Pl.ej ch.lines j∧Bel X2 wr) (fun _ vi _=>ch.lines.length - (intOf vi).toNat)
   case atStart=>exact⟨0,_,zN,rfl,rfl,by rw[Pl.ej,Xl];exact PN.out,zR⟩
   case round=>
    obtain⟨j,T2,hj,rfl,rfl,KW,Lu⟩:=hrel;have Jt:=uh KW;have iS:=uh Lu;have x4:=(vZ.out.later Lu).get 4 _ rfl;have xl:=(vZ.out.later Lu).lt;have kD:T2.size≤2000000000000:=by
     have h1:=Mq.out;have h2:=Pl.ju ch.lines nQ.out.ws j hj;have h3:=nQ.out.ln;rw[← Pl.aD,KW,At];omega
    clear KW Lu;by_cases su:j<ch.lines.length
    rotate_left
    ·obtain rfl:j=ch.lines.length:=by omega
     have HF:Hid ((T2++(⟨#[10]⟩:ByteArray)).data.toList=Pl.kb dd (k+1)):=by
      show _=_;rw[HN1.out,Pl.chT,XK,Array.toList_append,Jt.out,Tx.out];simp[List.append_assoc]
     go_wp2;go_roundw
     case rel=>
      repeat apply Exists.intro
      refine⟨⟨k+1,_,by omega,by go_num,rfl,HF.out,ae HW.out (ae eM.out iS.out)⟩,rfl⟩
     case measure=>simp[intOf];omega
    rcases bO (qn.out.later iS.out) with⟨e0,_⟩|⟨p2,o2,cc2,iH,tA,IA,iJ⟩
    ·omega
    injection iH with g1 _ g3
    subst g1;subst g3;obtain⟨a2,c2,gh,yI⟩:=iJ j su;obtain⟨x,hx⟩:∃ z,z=ch.lines.getD j Pl.aK:=⟨_,rfl⟩
    have Si:=nQ.out.ws (ch.lines.getD j Pl.aK) (by
     have e:ch.lines.getD j Pl.aK=ch.lines[j]:=by simp[su]
     rw[e];exact Xq su)
    rw[← hx]at gh yI Si;have jN:=uh (xC x a2 c2 wr yI (by omega));have hzl:(Pl.gp x).length≤40000:=by have:=Pl.oN x;omega
    have cZ:(0:Int)≤(j:Int):=by omega
    have dy:(j:Int)<(ch.lines.length:Int):=by omega
    unfold maxLen at IA;clear iJ yI Si;by_cases h0:j=0
    ·subst h0;have fS:Hid (Pl.ej ch.lines (0+1)=Pl.ej ch.lines 0++([58,32]++Pl.gp x)):=by show _=_;rw[hx];rfl
     clear hx;go_wp2_with (first|(refine wpList_load_mid rfl 41 _ rfl p2 (o2+0*2) rfl [.string x.key,.slice a2 x.ws.length c2] _ gh Tryz.underlying41 rfl (by kernel_rfl) ?_)|(go_at_call 10;refine jN.out.mono ?_;rintro e w5 ⟨rfl,oZ⟩))
     go_roundw
     case rel=>exact⟨0+1,_,by omega,by go_num,rfl,by rw[fS.out];simp[ByteArray.data_append,Jt.out,List.append_assoc],ae iS.out oZ⟩
     case measure=>simp[intOf];omega
    ·have Rf:¬ ((j:Nat):Int)=0:=by omega
     have fS:Hid (Pl.ej ch.lines (j+1)=Pl.ej ch.lines j++([44,32]++Pl.gp x)):=by show _=_;rw[Pl.ej,← hx];unfold Pl.vE;rw[if_neg h0]
     clear hx h0;go_wp2_with (first|(refine wpList_load_mid rfl 41 _ rfl p2 (o2+j*2) rfl [.string x.key,.slice a2 x.ws.length c2] _ gh Tryz.underlying41 rfl (by kernel_rfl) ?_)|(go_at_call 10;refine jN.out.mono ?_;rintro e w5 ⟨rfl,oZ⟩))
     go_roundw
     case rel=>exact⟨j+1,_,by omega,by go_num,rfl,by rw[fS.out];simp[ByteArray.data_append,Jt.out,List.append_assoc],ae iS.out oZ⟩
     case measure=>simp[intOf];omega
end Go.Proofs.YtgiglpnaekbegaaGreatDoor
