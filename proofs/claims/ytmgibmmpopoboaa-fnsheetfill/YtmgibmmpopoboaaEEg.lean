import Derived.Test.YtmgibmmpopoboaaEEa
namespace Go.Proofs.Ytmgibmmpopoboaa
set_option maxRecDepth 8000
set_option maxHeartbeats 40000000
open Go.RowKit Go.Deep
def VS5 (BX lp lq n:Nat) (b:Pl.Bl) (lc Wz:Nat) (x:Pl.Ln) (aw:Option Addr) (cw:Nat):Nat→Value→World→Prop
 |0,u,_=>u=.pointer (some ⟨BX,2,none⟩)
 |1,u,_=>u=.slice (some ⟨lp,lq,none⟩) b.lines.length lc
 |2,u,_=>u=.pointer (some ⟨BX,2,none⟩)
 |3,u,_=>u=.slice (some ⟨lp,lq,none⟩) b.lines.length lc
 |4,u,_=>u=.int .i64 (n:Int)
 |5,u,_=>u=.pointer (some ⟨lp,lq+n*2,none⟩)
 |6,u,_=>u=.agg #[.string x.key,.slice aw x.ws.length cw]
 |7,u,W=>∃ c:Nat,u=.slice (some ⟨c,0,none⟩) 1 1∧Wz≤c∧c<W.heap.size∧W.rangeAt c 0 [.string x.key,.slice aw x.ws.length cw]
 |_,_,_=>True
theorem AB (BX lp lq n:Nat) (b:Pl.Bl) (lc Wz:Nat) (x:Pl.Ln) (aw:Option Addr) (cw:Nat):∀ j u W W',Bel W W'→VS5 BX lp lq n b lc Wz x aw cw j u W→VS5 BX lp lq n b lc Wz x aw cw j u W':=by
 intro j u W W' hb h;match j with
 |0=>exact h
 |1=>exact h
 |2=>exact h
 |3=>exact h
 |4=>exact h
 |5=>exact h
 |6=>
  exact h
 |7=>
  obtain⟨c,e,h1,h2,h3⟩:=h;exact⟨c,e,h1,zL h2 hb.size,aA h3 h2 hb⟩
 |n+8=>exact trivial
theorem CM:gH 5:=by
 intro W0 W b R v len p q B0 Q BX lo xp xo xc k n s la lc HP HX HN HB HR K hK u1 u2 u3 u9 u10 u11 u12 u13 u14 u15 u16 u17 u18 u19 u20 u21 u22 u23 u24 u25 u26 u27 u28 u29 u30 u31 u32 u33 u34 u35 u36 u37 u39 u40 u41 u42 u43 u44 u45 u46 u47 u48 u49 u50 u51 u52 u53 u54 u55 u56 u57 u58 u59 u60 u61 u62 u63 u64 u65 u66 u67 u68 u69 u70 u71 u72 u73 u74 u75 u76 u77 u78 u79 u80 u81 u82 u83 u84 u85 u86 u87 u88 u89 u90 u91 u92 u93 u94 u95 u96 u97 u98 u99 u100 u101 u102 u103 u104 u105 u106 u107 u108 u109 u110 u111 u112 u113 u114 u115 u116 u117 u118 u119 u120 u121 u122 u123 u124 u125 u126 u127 u128 u129 u130 u131 u132 u133 u134 u135 u136 u137 u138 u139 u140 u141 u142 u143 u144 u145 u146 u147 u148 u149 u150 u151 u152 u153 u154 u155 u156 u157 u158 u159 u160 u161 u162 u163 u164 u165 u166 u167 u168 u169 u170 u171 u172 u173 u174 u175 u176 u177 u178 u179 u180 u181 u182 u183 u184 u185 u186 u187 u188 u189 u190 u191 u192 u193 u194 u195 u196 u197 u198;by_cases h0:b.lines.length=0
 ·have BD:¬ (0:Int)<(b.lines.length:Int):=by omega
  have b2:=HP.out.bbx.get 2 _ rfl;have bl:=HP.out.bbx.own.lt;simp only[sw,sk6,sk5,sk4,sk3,sk2,sk1,sk0,Try.f43,Option.getD_some,sfst_seq,ssnd_seq];go_wp2;have jd:=uh (HX.out.none HN.out.1 HB.out);have jk:=uh (HX.out.hn HN.out.1 HN.out.2.2 (s':=s) rfl);have je:=HP;have g9:Hid (Rd W R v len q∧q≤p+1000000):=⟨HR.out.1,by have:=HR.out.2;omega⟩
  exact dA W0 _ R v len p _ B0 Q BX lo xp xo xc k s.length _ _ _ la _ lc je jd jk g9 _ _ _ _ _ _ _ _ _ _ _ _ _ _ _ _ _ _ _ _ _ _ _ _ _ _ _ _ _ _ _ _ _ _ _ _ _ _ _ _ _ _ _ _ _ _ _ _ _ _ _ _ _ _ _ _ _ _ _ _ _ _ _ _ _ _ _ _ _ _ _ _ _ _ _ _ _ _ _ _ _ _ _ _ _ _ _ _ _ _ _ _ _ _ _ _ _ _ _ _ _ _ _ _ _ _ _ _ _ _ _ _ _ _ _ _ _ _ _ _ _ _ _ _ _ _ _ _ _ _ _ _ _ _ _ _ _ _ _ _ _ _ _ _ _ _ _ _ _ _ _ _ _ _ _ _ _ _ _ _ _ _ _ _ _ _ _ _ _ _ _ _ _ _ _ _ _ _ _ _ _ _ _ _ _ _ _ _ _ _ _ _ _ _
 have HNL:Hid (n<b.lines.length):=HN.out.2.1 (by omega);obtain⟨x,hx⟩:∃ x,b.lines.getD n Pl.aQ=x:=⟨_,rfl⟩
 have qX:=uh hx;obtain⟨lp,lq,aw,cw,Du,I5,iN⟩:∃ lp lq aw cw,la=some ⟨lp,lq,none⟩∧W.rangeAt lp (lq+n*2) [.string x.key,.slice aw x.ws.length cw]∧(lo≤lp∧(lp≠xp∧lp<Q)∧lp<W.heap.size):=by
  obtain⟨Gk,rk,nk,hG,_⟩:=HX.out.hole;obtain⟨p2,o2,u,m,aw,cw,F2,e2,mT,ho,Bv,hg,rl,_⟩:=dU rk HNL.out;rw[hx]at hg rl;exact⟨p2,o2,aw,cw,e2,hg,(hG _ mT).1,(hG _ mT).2,ho.lt⟩
 subst Du;have HGL:=uh I5;have jD:Hid (lo≤lp∧(lp≠xp∧lp<Q)∧lp<W.heap.size):=iN;have GU:Hid (b.lines.length≤7):=HB.out.per b (HX.out.mem HN.out.1);have By:Hid (Pl.wbl ⟨b.kind,b.name,b.lines++[x]⟩≤300000):=by
  have h1:=(HB.out.one (HX.out.mem HN.out.1)).1;have h2:Pl.wbl b=b.kind.size+b.name.size+(b.lines.map fun x=>Pl.wln x+1).sum:=rfl;have Lx:x∈b.lines:=by
   have e:b.lines.getD n Pl.aQ=b.lines[n]'HNL.out:=by simp[HNL.out]
   rw[← hx,e];exact List.getElem_mem _
  have h3:=CR Lx;show b.kind.size+b.name.size+((b.lines++[x]).map fun x=>Pl.wln x+1).sum≤300000;rw[List.map_append,List.sum_append];simp only[List.map_cons,List.map_nil,List.sum_cons,List.sum_nil];omega
 have BD:(0:Int)<(b.lines.length:Int):=by omega
 have Gs:(0:Int)≤(n:Int):=by omega
 have BR:(n:Int)<(b.lines.length:Int):=by have:=HNL.out;omega
 clear I5 iN hx;have b2:=HP.out.bbx.get 2 _ rfl;have bl:=HP.out.bbx.own.lt;simp only[sw,sk6,sk5,sk4,sk3,sk2,sk1,sk0,Try.f43,Option.getD_some,sfst_seq,ssnd_seq];go_upto_region 26 with fail
 clear b2 bl BD h0;refine RY.l6 W zR (VS5 BX lp lq n b lc W.heap.size x aw cw) (AB _ _ _ _ _ _ _ _ _ _) (fun u W'=>∃ X row F4 la' lc',u=.slice la' (b.lines.length+1) lc'∧Rep W' false aJ F4 [aU (b.lines++[x])] [u]∧(∀ c∈F4,(lo≤c∧c≠xp∧c<Q)∨W.heap.size≤c)∧Bel W X∧X.grownBy W' row∧Marks (fun c=>row=some c) X W'∧(∀ c,row=some c→c=lp)) (fun u W'=>∃ Y,(∃ X row F4 la' lc',u=.slice la' (b.lines.length+1) lc'∧Rep Y false aJ F4 [aU (b.lines++[x])] [u]∧(∀ c∈F4,(lo≤c∧c≠xp∧c<Q)∨W.heap.size≤c)∧Bel W X∧X.grownBy Y row∧Marks (fun c=>row=some c) X Y∧(∀ c,row=some c→c=lp))∧W'=Y.setCell ⟨BX,2,none⟩ u) (.pointer (some ⟨BX,2,none⟩)) 8 12 144 145 (by kernel_rfl) (by kernel_rfl) (by kernel_rfl) (by kernel_rfl) (by kernel_rfl) rfl (by kernel_rfl) _ _ _ rfl rfl rfl rfl rfl rfl (by kernel_rfl) (by kernel_rfl) ?_ ?_ ?_ ?_ ?_
 ·intro i o' ho gN a X hX hk hd;have zb:=HP.out.bbx.ae hX;have zc:=zb.get 2 _ rfl;have zl:=zb.own.lt;match i,ho with
  |0,ho=>
   injection ho with ho;subst ho
   have e7:a.tmps[7]?.getD undef=.pointer (some ⟨BX,0,none⟩):=(RY.af a 7).trans ((hk 7 (by kernel_rfl)).trans rfl);exact Or.inl ⟨.pointer (some ⟨BX,2,none⟩),X,by simp[execOp,go_sem,e7],zR,rfl⟩
  |1,ho=>
   injection ho with ho;subst ho
   have e136:a.tmps[136]?.getD undef=_:=(RY.af a 136).trans (hd 0 _ 136 rfl rfl ⟨⟨0,.data⟩,by simp,rfl,rfl⟩ (by decide));exact Or.inl ⟨.slice (some ⟨lp,lq,none⟩) b.lines.length lc,X,by simp[execOp,go_sem,e136,zc],zR,rfl⟩
  |2,ho=>
   injection ho with ho;subst ho
   have e7:a.tmps[7]?.getD undef=.pointer (some ⟨BX,0,none⟩):=(RY.af a 7).trans ((hk 7 (by kernel_rfl)).trans rfl);exact Or.inl ⟨.pointer (some ⟨BX,2,none⟩),X,by simp[execOp,go_sem,e7],zR,rfl⟩
  |3,ho=>
   injection ho with ho;subst ho
   have e138:a.tmps[138]?.getD undef=_:=(RY.af a 138).trans (hd 2 _ 138 rfl rfl ⟨⟨2,.data⟩,by simp,rfl,rfl⟩ (by decide));exact Or.inl ⟨.slice (some ⟨lp,lq,none⟩) b.lines.length lc,X,by simp[execOp,go_sem,e138,zc],zR,rfl⟩
  |4,ho=>
   injection ho with ho;subst ho
   have e8:a.tmps[8]?.getD undef=.int .i64 (n:Int):=(RY.af a 8).trans ((hk 8 (by kernel_rfl)).trans rfl);exact Or.inl ⟨.int .i64 (n:Int),X,by simp[execOp,go_sem,e8],zR,rfl⟩
  |5,ho=>
   injection ho with ho;subst ho
   have e139:a.tmps[139]?.getD undef=_:=(RY.af a 139).trans (hd 3 _ 139 rfl rfl ⟨⟨3,.data⟩,by simp,rfl,rfl⟩ (by decide));have e140:a.tmps[140]?.getD undef=_:=(RY.af a 140).trans (hd 4 _ 140 rfl rfl ⟨⟨4,.data⟩,by simp,rfl,rfl⟩ (by decide));exact Or.inl ⟨.pointer (some ⟨lp,lq+n*2,none⟩),X,by simp[execOp,go_sem,e139,e140,Gs,BR],zR,rfl⟩
  |6,ho=>
   injection ho with ho;subst ho
   have e1:=hd 5 _ 141 rfl rfl ⟨⟨5,.data⟩,by simp,rfl,rfl⟩ (by decide);exact Or.inl ⟨_,X,aq 53 _ rfl lp (lq+n*2) e1 [.string x.key,.slice aw x.ws.length cw] _ (aA HGL.out jD.out.2.2 hX) Try.underlying53 rfl (by kernel_rfl),zR,rfl⟩
  |7,ho=>
   injection ho with ho;subst ho
   have e142:=(RY.af a 142).trans (hd 6 _ 142 rfl rfl ⟨⟨6,.data⟩,by simp,rfl,rfl⟩ (by decide));exact Or.inl ⟨.slice (some ⟨X.heap.size,0,none⟩) 1 1,X.alloc (.cells #[.string x.key,.slice aw x.ws.length cw] 53),by simp[execOp,go_sem,e142],ah zR _,X.heap.size,rfl,hX.size,by simp,(aK.new X [.string x.key,.slice aw x.ws.length cw] 53 _ rfl).at_⟩
  |n+8,ho=>omega
 ·intro a X hX hk hd;have zb:=HP.out.bbx.ae hX;have zc:=zb.get 2 _ rfl;have zl:=zb.own.lt;have e0:=hd 1 _ 137 rfl rfl ⟨⟨1,.data⟩,by simp,rfl,rfl⟩ (by decide);obtain⟨c0,e1,jU,kj,hcr⟩:=hd 7 _ 143 rfl rfl ⟨⟨7,.data⟩,by simp,rfl,rfl⟩ (by decide);have Bj:=HX.out.ae hX;obtain⟨Gk,rk,nk,hG,hh⟩:=Bj.hole;obtain⟨p2,o2,u,m,aw2,Is,F2,e2,mT,ho,Bv,hg,rl,⟨G2,Gf,eM⟩,_⟩:=dU rk HNL.out;injection e2 with e2
  injection e2 with e3 e4 _
  subst e3;subst e4;rw[qX.out]at rl hg;have oU:some (Value.slice aw2 x.ws.length Is)=some (.slice aw x.ws.length cw):=(aF hg 1 _ rfl).symm.trans (aF (aA HGL.out jD.out.2.2 hX) 1 _ rfl);injection oU with oU
  injection oU with oU _ hgc2
  subst oU;subst hgc2;have nk2:=nk;rw[Gf]at nk2;have hpn:=(List.nodup_cons.1 nk2).1;have Ma:∀ p G,Gk=p::G→p=lp∧G=G2:=fun p G e=>by rw[Gf]at e;injection e with e5 e6;exact⟨e5.symm,e6.symm⟩
  obtain⟨v',X',F4,row,cg,rep,nd4,eS,cN,dw,jV⟩:=kC (P:=Try.prog) 30 30 53 2 40 _ Try.bW Try.ey rfl (by decide) au rfl X rk (fun p G e=>by obtain⟨e5,e6⟩:=Ma p G e;rw[e5,e6];exact hpn) (by have:=GU.out;omega) (F':=F2) (d:=lnD x) (c':=[.string x.key,.slice aw2 x.ws.length Is]) ⟨c0,0,none⟩ rl (fun p G e hb=>by obtain⟨e5,e6⟩:=Ma p G e;subst e5;exact hpn (eM _ hb)) (fun j y hy=>by have:=hcr j y hy;rw[Addr.add_mid];exact this);obtain⟨la',lc',yd⟩:=rep.raw.aP;subst yd;refine⟨_,X',bg (.tmp 137) (.tmp 143) 30 rfl e0 e1 cg,X,row,F4,la',lc',rfl, ?_, ?_,hX,cN,jV,fun c e=>by obtain⟨G,hG5⟩:=dw c e;exact(Ma c G hG5).1⟩
  ·have e:aU (b.lines++[x])=.row (b.lines.length+1) (b.lines.flatMap lnD++lnD x):=by unfold aU;rw[List.flatMap_append,List.flatMap_singleton,List.length_append,List.length_singleton]
   rw[e];exact rep
  ·intro c hc;rcases eS c hc with e|e|e
   ·exact Or.inl ⟨(hG c e).1,(hG c e).2.1,(hG c e).2.2⟩
   ·have:=hG c (by rw[Gf];exact List.mem_cons_of_mem _ (eM c e));exact Or.inl ⟨this.1,this.2.1,this.2.2⟩
   ·exact Or.inr (by have:=hX.size;omega)
 ·intro a X hk;have e3:a.tmps[7]?.getD undef=.pointer (some ⟨BX,0,none⟩):=(RY.af a 7).trans ((hk 7 (by kernel_rfl)).trans rfl);simp[execOp,go_sem,e3]
 ·intro a X hK hp;obtain⟨Y,row,F4,la',lc',e1,hr,hF,hb,hg,jV,qV⟩:=hK;have t1:=(RY.af a 144).trans e1;have t2:=(RY.af a 145).trans hp;have KM:=jD.out;have vR:=HP.out.ord;have qF:=(HP.out.ae hb).grow hg (fun c e=>by have:=qV c e;omega);have z2:=qF.bbx.get 2 _ rfl;have zf:=qF.bbx.own.frozen 2;have zl:=qF.bbx.own.lt;refine⟨X.setCell ⟨BX,2,none⟩ (.slice la' (b.lines.length+1) lc'),by simp[execOp,go_sem,t1,t2,z2,zf],X,⟨Y,row,F4,la',lc',e1,hr,hF,hb,hg,jV,qV⟩,by rw[e1]⟩
 ·rintro vals X hK e2;simp only[RY.aE,Act.put,List.setIfInBounds_toArray,List.set_cons_zero,List.set_cons_succ];rw[e2];generalize vals 136=s136;generalize vals 137=s137;generalize vals 138=uO;generalize vals 139=s139;generalize vals 140=s140;generalize vals 141=s141;generalize vals 142=s142;generalize vals 143=s143;obtain⟨Y,⟨X0,row,F4,la',lc',e1,hr,hF,hb,hg,jV,qV⟩,fj⟩:=hK;rw[e1]at hr fj ⊢;clear e1;obtain⟨W3,DY⟩:∃ W3,W3=Y.setCell ⟨BX,2,none⟩ (.slice la' (b.lines.length+1) lc'):=⟨_,rfl⟩
  rw[fj,← DY];clear fj;have KM:=jD.out;have vR:=HP.out.ord;have bN:=HX.out.lt;have qF:=(HP.out.ae hb).grow hg (fun c e=>by have:=qV c e;omega);have hm:Marks (fun b=>b=BX) Y W3:=by rw[DY];exact Marks.sc (S:=fun b=>b=BX) Y rfl _ _
  have je:=uh (qF.CS hm (by rw[DY];exact qF.bbx.set 2 (.slice la' (b.lines.length+1) lc') (by simp)));obtain⟨Gk,rk,nk,hG,hh⟩:=(HX.out.ae hb).hole;obtain⟨p2,o2,_,_,_,_,_,e2,mT,_⟩:=dU rk HNL.out;injection e2 with e2
  injection e2 with e3 e4 _
  subst e3;subst e4;have EX:=(hh.aY jV (fun c e=>Or.inl (Or.inl (by rw[qV c e];exact mT)))).aY hm (fun c e=>Or.inl (Or.inr (by have:c=BX:=e;omega)));have kf:=hr.aY hm (fun c hc e=>by have e:c=BX:=e;have:=hF c hc;omega);have jS:=hb.size;have tC:=hg.size;have K4:=hm.size;have BJ:=EX.fill (N:=W3.heap.size) ⟨b.kind,b.name,b.lines++[x]⟩ (lv:=.slice la' (b.lines.length+1) lc') ⟨F4,kf,fun c hc=>Or.inl ⟨by have:=hF c hc;omega,kf.lt c hc⟩⟩ (by omega);have Bq:(s.take k).length=k:=by rw[List.length_take];have:=HN.out.1;omega
  have Ds:s.take k++⟨b.kind,b.name,b.lines++[x]⟩::s.drop (k+1)=s.set k ⟨b.kind,b.name,b.lines++[x]⟩:=by rw[List.set_eq_take_append_cons_drop,if_pos HN.out.1]
  have bG:=EX.there;rw[Bq]at BJ bG;rw[Ds]at BJ;have jd:Hid (cv (W3.setCells xp (xo+k*3) [.string b.kind,.string b.name,.slice la' (b.lines.length+1) lc']) xp xo lo (s.set k ⟨b.kind,b.name,b.lines++[x]⟩)∧Sw (s.set k ⟨b.kind,b.name,b.lines++[x]⟩)):=⟨BJ,HB.out.set k _ By.out⟩
  have jk:Hid ((s.set k ⟨b.kind,b.name,b.lines++[x]⟩).length=s.length∧(s.length≤maxLen∧s.length≤xc)∧k<s.length∧xp≠Q∧xp≠BX∧lo≤xp∧W3.there xp (xo+k*3) 3):=⟨by rw[List.length_set],HN.out.2.2,HN.out.1,by omega,by omega,bN.1,bG⟩
  have g9:Hid (Rd W3 R v len q∧q≤p+1000000):=⟨((HR.out.1.ae hb).grown hg (fun c e=>by have:=qV c e;omega)).mks hm (fun c e=>by have:c=BX:=e;omega),by have:=HR.out.2;omega⟩
  clear DY hr hF hb hg jV qV qF hm rk nk hG hh EX kf BJ bG Ds Bq KM vR bN jS tC K4 e2;go_wp2;exact dA W0 _ R v len p _ B0 Q BX lo xp xo xc k s.length _ _ _ _ _ _ je jd jk g9 _ _ _ _ _ _ _ _ _ _ _ _ _ _ _ _ _ _ _ _ _ _ _ _ _ _ _ _ _ _ _ _ _ _ _ _ _ _ _ _ _ _ _ _ _ _ _ _ _ _ _ _ _ _ _ _ _ _ _ _ _ _ _ _ _ _ _ _ _ _ _ _ _ _ _ _ _ _ _ _ _ _ _ _ _ _ _ _ _ _ _ _ _ _ _ _ _ _ _ _ _ _ _ _ _ _ _ _ _ _ _ _ _ _ _ _ _ _ _ _ _ _ _ _ _ _ _ _ _ _ _ _ _ _ _ _ _ _ _ _ _ _ _ _ _ _ _ _ _ _ _ _ _ _ _ _ _ _ _ _ _ _ _ _ _ _ _ _ _ _ _ _ _ _ _ _ _ _ _ _ _ _ _ _ _ _ _ _ _ _ _ _ _ _
end Go.Proofs.Ytmgibmmpopoboaa
