import Derived.Test.YtopjjknojnfhmaaGreatDoorEEk
namespace Go.Proofs.YtopjjknojnfhmaaGreatDoor
open Go.RowKit Go.Deep
theorem Cf {W:World} {x y:Pl.Ln} {ls:List Pl.Ln} {F:List Nat} {la:Option Addr} {lc:Nat} (h:Rep W false bF F [bT (x::y::ls)] [.slice la (x::y::ls).length lc]) (nd:F.Nodup):∃ p o u m a0 c0 a1 c1,la=some ⟨p,o,none⟩∧p∈F∧aV W p u m∧o+(x::y::ls).length*2≤m∧W.rangeAt p o [.string x.key,.slice a0 x.ws.length c0]∧W.rangeAt p (o+2) [.string y.key,.slice a1 y.ws.length c1]∧
  ∀ W1 W2 W3,Bel W W1→W2=W1.setCells p o [.string y.key,.slice a1 y.ws.length c1]→W3=W2.setCells p (o+2) [.string x.key,.slice a0 x.ws.length c0]→∃ F',Rep W3 false bF F' [bT (y::x::ls)] [.slice la (x::y::ls).length lc]∧∀ b∈F',b∈F:=by
 rcases h.slice with⟨_,e0,_⟩|⟨p,o,c,u,m,G,hv,hF,hn,ho,hm,_,vs,hr,hR⟩
 ·simp at e0
 ·injection hv with hv _ hc
  subst hv;subst hc;subst hF;have ou:=(List.nodup_cons.1 nd).1;have e:bf (x::y::ls).length aA=aA++(aA++bf ls.length aA):=rfl;have e2:(x::y::ls).flatMap lnD=lnD x++(lnD y++ls.flatMap lnD):=by rw[List.flatMap_cons,List.flatMap_cons]
  rw[e,e2]at hR;obtain⟨F0,G1,d0,e1,v0,w1,hG,hd,bg,r0,mL⟩:=Rep.cut _ hR;obtain⟨g1,g2⟩:=List.append_inj hd.symm (by rw[r0.raw.typ.len];rfl);subst g1;subst g2;obtain⟨F1,G2,d1,e3,v1,w2,hG1,Hw,R9,r1,r2⟩:=Rep.cut _ mL;obtain⟨g3,g4⟩:=List.append_inj Hw.symm (by rw[r1.raw.typ.len];rfl);subst g3;subst g4;obtain⟨F0',s0,MF,Fz,q0⟩:=fR r0;obtain⟨a0,c0,ea0⟩:=q0.raw.bm;subst ea0;subst Fz;obtain⟨F1',s1,oF,fy,q1⟩:=fR r1;obtain⟨a1,c1,ea1⟩:=q1.raw.bm;subst ea1;subst fy;subst R9;subst bg;subst hG1;subst hG;have wL:=(dA hr).1;have oM:=(dA (dA hr).2).1;have mF:=(dA (dA hr).2).2;have hlw:w2.length=ls.length*2:=by rw[r2.len,bj];rfl
  have PD:o+(x::y::ls).length*2≤m:=hm;have fJ:(x::y::ls).length=ls.length+2:=rfl;refine⟨p,o,u,m,a0,c0,a1,c1,rfl,by simp,ho,PD,wL,oM,fun W1 W2 W3 hb h2 h3=> ?_⟩;have sk:=ho.later hb;have m2:Marks (fun b=>b=p) W1 W2:=by rw[h2];exact aM (S:=fun b=>b=p) rfl _ _ _
  have m3:Marks (fun b=>b=p) W2 W3:=by rw[h3];exact aM (S:=fun b=>b=p) rfl _ _ _
  have Ql:=m2.own _ _ _ sk;have RN:=m3.own _ _ _ Ql;have k1:W2.rangeAt p o [.string y.key,.slice a1 y.ws.length c1]:=by rw[h2];exact World.rangeAt_setCells_same _ _ _ _ (aR sk _ _ (by simp only[List.length_cons,List.length_nil];omega))
  have k2:W3.rangeAt p o [.string y.key,.slice a1 y.ws.length c1]:=by rw[h3];exact World.rangeAt_setCells_apart k1 _ _ _ (Or.inr (Or.inl (by simp)))
  have k3:W3.rangeAt p (o+2) [.string x.key,.slice a0 x.ws.length c0]:=by rw[h3];exact World.rangeAt_setCells_same _ _ _ _ (aR Ql _ _ (by simp only[List.length_cons,List.length_nil];omega))
  have k4:W3.rangeAt p (o+2+2) w2:=by
   rw[h3];refine World.rangeAt_setCells_apart ?_ _ _ _ (Or.inr (Or.inr (by simp)));rw[h2];refine World.rangeAt_setCells_apart ?_ _ _ _ (Or.inr (Or.inr (by simp only[List.length_cons,List.length_nil];omega)));exact aB mF ho.lt hb
  have kp:∀ {ss:List Sh} {FF:List Nat} {ds:List Dt} {cs:List Value},Rep W false ss FF ds cs→(∀ b∈FF,b∈F0++(F1++G2))→Rep W3 false ss FF ds cs:=fun h hs=>((h.later hb).bo m2 fun b gb e=>by have e:b=p:=e;subst e;exact ou (hs b gb)).bo m3 fun b gb e=>by have e:b=p:=e;subst e;exact ou (hs b gb)
  have kS:=(kp r1 (fun b hb=>by simp[hb])).app ((kp r0 (fun b hb=>by simp[hb])).app (kp r2 (fun b hb=>by simp[hb])));refine⟨p::((F1++(F0++G2))++[]), ?_,fun b hb=> ?_⟩
  ·have e5:bT (y::x::ls)=.row (x::y::ls).length (lnD y++(lnD x++ls.flatMap lnD)):=by unfold bT;rw[List.flatMap_cons,List.flatMap_cons];rfl
   rw[e5];exact Rep.row _ aA p o _ _ u m _ _ _ RN hn.2.2 (by simp) ⟨hn.1,hn.2.1⟩ (kJ k2 (kJ k3 k4)) kS .nil
  ·rw[List.append_nil]at hb;simp only[List.mem_cons,List.mem_append]at hb ⊢;rcases hb with hb|hb|hb|hb
   ·exact Or.inl hb
   ·exact Or.inr (Or.inr (Or.inl hb))
   ·exact Or.inr (Or.inl hb)
   ·exact Or.inr (Or.inr (Or.inr hb))
set_option maxHeartbeats 40000000
set_option maxRecDepth 8000
def VS6 (BX:Nat) (lp:Nat) (lq:Nat) (b:Pl.Bl) (lc:Nat) (y:Pl.Ln) (a1:Option Addr) (c1:Nat):Nat→Value→World→Prop
 |0,vv,_=>vv=.pointer (some ⟨BX,2,none⟩)
 |1,vv,_=>vv=.slice (some ⟨lp,lq,none⟩) b.lines.length lc
 |2,vv,_=>vv=.pointer (some ⟨BX,2,none⟩)
 |3,vv,_=>vv=.slice (some ⟨lp,lq,none⟩) b.lines.length lc
 |4,vv,_=>vv=.pointer (some ⟨lp,lq+1*2,none⟩)
 |5,vv,_=>vv=.agg #[.string y.key,.slice a1 y.ws.length c1]
 |6,vv,_=>vv=.pointer (some ⟨lp,lq,none⟩)
 |_,_,_=>True
theorem D0 (BX:Nat) (lp:Nat) (lq:Nat) (b:Pl.Bl) (lc:Nat) (y:Pl.Ln) (a1:Option Addr) (c1:Nat):∀ jj vv W W',Bel W W'→VS6 BX lp lq b lc y a1 c1 jj vv W→VS6 BX lp lq b lc y a1 c1 jj vv W':=by
 intro jj vv W W' hb h;match jj with
 |0=>exact h
 |1=>exact h
 |2=>exact h
 |3=>exact h
 |4=>exact h
 |5=>exact h
 |6=>exact h
 |n+7=>exact trivial
theorem GX:g6 6:=by
 intro W0 W b R v len p q B0 Q BX lo xp xo xc k n s la lc HP HX HN HB HR K hK u1 u2 u3 u9 u10 u11 u12 u13 u14 u15 u16 u17 u18 u19 u20 u21 u22 u23 u24 u25 u26 u27 u28 u29 u30 u31 u32 u33 u34 u35 u36 u37 u39 u40 u41 u42 u43 u44 u45 u46 u47 u48 u49 u50 u51 u52 u53 u54 u55 u56 u57 u58 u59 u60 u61 u62 u63 u64 u65 u66 u67 u68 u69 u70 u71 u72 u73 u74 u75 u76 u77 u78 u79 u80 u81 u82 u83 u84 u85 u86 u87 u88 u89 u90 u91 u92 u93 u94 u95 u96 u97 u98 u99 u100 u101 u102 u103 u104 u105 u106 u107 u108 u109 u110 u111 u112 u113 u114 u115 u116 u117 u118 u119 u120 u121 u122 u123 u124 u125 u126 u127 u128 u129 u130 u131 u132 u133 u134 u135 u136 u137 u138 u139 u140 u141 u142 u143 u144 u145 u146 u147 u148 u149 u150 u151 u152 u153 u154 u155 u156 u157 u158 u159 u160 u161 u162 u163 u164 u165 u166 u167 u168 u169 u170 u171 u172 u173 u174 u175 u176 u177 u178 u179 u180 u181 u182 u183 u184 u185 u186 u187 u188 u189 u190 u191 u192 u193 u194 u195 u196 u197 u198;by_cases h0:b.lines.length≤1
 ·have Fi:¬ (1:Int)<(b.lines.length:Int):=by omega
  have b2:=HP.out.bbx.get 2 _ rfl;have bl:=HP.out.bbx.own.lt;simp only[sw,sk6,sk5,sk4,sk3,sk2,sk1,sk0,Tryz.f36,Option.getD_some,cr,cB];go_wp2;have jK:=uh (HX.out.none HN.out.1 HB.out);have jF:=uh (HX.out.hn HN.out.1 HN.out.2.2 (s':=s) rfl);have jH:=HP;have iG:Hid (Rd W R v len q∧q≤p+1000000):=⟨HR.out.1,by have:=HR.out.2;omega⟩
  exact dL W0 _ R v len p _ B0 Q BX lo xp xo xc k s.length _ _ _ la _ lc jH jK jF iG _ _ _ _ _ _ _ _ _ _ _ _ _ _ _ _ _ _ _ _ _ _ _ _ _ _ _ _ _ _ _ _ _ _ _ _ _ _ _ _ _ _ _ _ _ _ _ _ _ _ _ _ _ _ _ _ _ _ _ _ _ _ _ _ _ _ _ _ _ _ _ _ _ _ _ _ _ _ _ _ _ _ _ _ _ _ _ _ _ _ _ _ _ _ _ _ _ _ _ _ _ _ _ _ _ _ _ _ _ _ _ _ _ _ _ _ _ _ _ _ _ _ _ _ _ _ _ _ _ _ _ _ _ _ _ _ _ _ _ _ _ _ _ _ _ _ _ _ _ _ _ _ _ _ _ _ _ _ _ _ _ _ _ _ _ _ _ _ _ _ _ _ _ _ _ _ _ _ _ _ _ _ _ _ _ _ _ _ _ _ _ _ _ _
 obtain⟨x,y,ls,eY⟩:∃ x y ls,b.lines=x::y::ls:=by
  match hb:b.lines with
  |[]=>rw[hb]at h0;simp at h0
  |[_]=>rw[hb]at h0;simp at h0
  |x::y::ls=>exact⟨x,y,ls,rfl⟩
 obtain⟨lp,lq,a0,c0,a1,c1,u,m,Bk,fJ,ho,EY,h0c,h1c,E3⟩:∃ (lp lq:Nat) (a0:Option Addr) (c0:Nat) (a1:Option Addr) (c1:Nat) (u:TypeId) (m:Nat),la=some ⟨lp,lq,none⟩∧(lo≤lp∧(lp≠xp∧lp<Q)∧lp<W.heap.size)∧aV W lp u m∧lq+b.lines.length*2≤m∧W.rangeAt lp lq [.string x.key,.slice a0 x.ws.length c0]∧W.rangeAt lp (lq+2) [.string y.key,.slice a1 y.ws.length c1]∧∃ Gk:List Nat,(jx W xp xo lo (s.take k) (s.drop (k+1)) (fun c=>c∈Gk∨Q≤c)∧lp∈Gk∧∀ c∈Gk,lo≤c∧c≠xp∧c<Q)∧∀ W1 W2 W3,Bel W W1→W2=W1.setCells lp lq [.string y.key,.slice a1 y.ws.length c1]→W3=W2.setCells lp (lq+2) [.string x.key,.slice a0 x.ws.length c0]→∃ F',Rep W3 false bF F' [bT (y::x::ls)] [.slice la b.lines.length lc]∧∀ b∈F',b∈Gk:=by
  obtain⟨Gk,rk,nk,hG,hh⟩:=HX.out.hole;rw[eY]at rk;obtain⟨lp,lq,u,m,a0,c0,a1,c1,Bk,ou,ho,EY,h0,h1,E3⟩:=Cf rk nk;rw[← eY]at E3 EY;exact⟨lp,lq,a0,c0,a1,c1,u,m,Bk,⟨(hG _ ou).1,(hG _ ou).2,ho.lt⟩,ho,EY,h0,h1,Gk,⟨hh,ou,hG⟩,E3⟩
 subst Bk;have h2l:2≤b.lines.length:=by omega
 have jI:Hid (lo≤lp∧(lp≠xp∧lp<Q)∧lp<W.heap.size):=fJ;have JF:=uh E3;have BC:Hid (Pl.wbl ⟨b.kind,b.name,y::x::ls⟩≤300000):=by
  have h1:=(HB.out.one (HX.out.mem HN.out.1)).1;have h2:Pl.wbl b=b.kind.size+b.name.size+(b.lines.map fun x=>Pl.wln x+1).sum:=rfl;rw[eY]at h2;simp only[List.map_cons,List.sum_cons]at h2;show b.kind.size+b.name.size+((y::x::ls).map fun x=>Pl.wln x+1).sum≤300000;simp only[List.map_cons,List.sum_cons];omega
 obtain⟨W1,ia⟩:∃ W1,W1=W.alloc (.cells #[.string x.key,.slice a0 x.ws.length c0] 46):=⟨_,rfl⟩
 obtain⟨FB,Sz⟩:∃ FB,FB=W.heap.size:=⟨_,rfl⟩
 have bJ:Bel W W1:=by rw[ia];exact ae zR _
 have Le:Hid (al W1 FB 46 [.string x.key,.slice a0 x.ws.length c0]):=by show al _ _ _ _;rw[ia,Sz];exact al.new W [.string x.key,.slice a0 x.ws.length c0] 46 _ rfl
 have HFZ:Hid (FB≠lp):=by show FB≠lp;have:=jI.out;omega
 have gE:=uh bJ;have HPa:=uh (HP.out.later bJ);have HOW:=uh (ho.later bJ);have Qy:Hid (lq+(#[.string y.key,.slice a1 y.ws.length c1]:Array Value).size≤m):=by show lq+2≤m;omega
 have RD:Hid (lq+2+(#[.string x.key,.slice a0 x.ws.length c0]:Array Value).size≤m):=by show lq+2+2≤m;omega
 have Fv:Hid (W1.rangeAt lp (lq+1*2) [.string y.key,.slice a1 y.ws.length c1]):=aB h1c jI.out.2.2 bJ;have tx:Hid (lp<W1.heap.size):=zL jI.out.2.2 bJ.size;have Fi:(1:Int)<(b.lines.length:Int):=by omega
 have hg0:(0:Int)<(b.lines.length:Int):=by omega
 have Rv:0<b.lines.length:=by omega
 have b2:=HP.out.bbx.get 2 _ rfl;have bl:=HP.out.bbx.own.lt;have ll:=jI.out.2.2;clear E3 fJ ho EY h1c h2l h0 eY;simp only[sw,sk6,sk5,sk4,sk3,sk2,sk1,sk0,Tryz.f36,Option.getD_some,cr,cB];go_upto_region 30 with(refine wpList_load_mid rfl 46 _ rfl lp lq rfl [.string x.key,.slice a0 x.ws.length c0] _ h0c Tryz.underlying46 rfl (by kernel_rfl) ?_)
 rw[← ia,← Sz];clear ia Sz bJ b2 bl ll h0c;refine RY.jS W1 zR (VS6 BX lp lq b lc y a1 c1) (D0 _ _ _ _ _ _ _ _) (fun _ W'=>∃ X,Bel W1 X∧W'=X.setCells lp lq [.string y.key,.slice a1 y.ws.length c1]) 7 12 (by kernel_rfl) (by kernel_rfl) (by kernel_rfl) (by kernel_rfl) rfl [5,6] (by kernel_rfl) (by kernel_rfl) _ rfl rfl (by kernel_rfl) ?_ ?_ ?_
 ·intro ii o' ho E2 a X hX hk hd;have zBX:=HPa.out.bbx.later hX;have zBXl:=zBX.own.lt;match ii,ho with
  |0,ho=>
   injection ho with ho;subst ho
   have e7:a.tmps[7]?.getD undef=.pointer (some ⟨BX,0,none⟩):=(RY.af a 7).trans ((hk 7 (by kernel_rfl)).trans rfl);exact Or.inl ⟨.pointer (some ⟨BX,2,none⟩),X,by simp[execOp,go_sem,e7],zR,rfl⟩
  |1,ho=>
   injection ho with ho;subst ho
   have e156:a.tmps[156]?.getD undef=.pointer (some ⟨BX,2,none⟩):=(RY.af a 156).trans (hd 0 _ 156 rfl rfl ⟨⟨0,.data⟩,by simp,rfl,rfl⟩ (by decide));have ycl_:=zBX.get 2 _ rfl;exact Or.inl ⟨.slice (some ⟨lp,lq,none⟩) b.lines.length lc,X,by simp[execOp,go_sem,e156,ycl_],zR,rfl⟩
  |2,ho=>
   injection ho with ho;subst ho
   have e7:a.tmps[7]?.getD undef=.pointer (some ⟨BX,0,none⟩):=(RY.af a 7).trans ((hk 7 (by kernel_rfl)).trans rfl);exact Or.inl ⟨.pointer (some ⟨BX,2,none⟩),X,by simp[execOp,go_sem,e7],zR,rfl⟩
  |3,ho=>
   injection ho with ho;subst ho
   have e158:a.tmps[158]?.getD undef=.pointer (some ⟨BX,2,none⟩):=(RY.af a 158).trans (hd 2 _ 158 rfl rfl ⟨⟨2,.data⟩,by simp,rfl,rfl⟩ (by decide));have ycl_:=zBX.get 2 _ rfl;exact Or.inl ⟨.slice (some ⟨lp,lq,none⟩) b.lines.length lc,X,by simp[execOp,go_sem,e158,ycl_],zR,rfl⟩
  |4,ho=>
   injection ho with ho;subst ho
   have e159:a.tmps[159]?.getD undef=.slice (some ⟨lp,lq,none⟩) b.lines.length lc:=(RY.af a 159).trans (hd 3 _ 159 rfl rfl ⟨⟨3,.data⟩,by simp,rfl,rfl⟩ (by decide));exact Or.inl ⟨.pointer (some ⟨lp,lq+1*2,none⟩),X,by simp[execOp,go_sem,e159,Fi],zR,rfl⟩
  |5,ho=>
   injection ho with ho;subst ho
   have v160:a.eval (.tmp 160)=.pointer (some ⟨lp,lq+1*2,none⟩):=hd 4 _ 160 rfl rfl ⟨⟨4,.data⟩,by simp,rfl,rfl⟩ (by decide);exact Or.inl ⟨_,X,ar 46 _ rfl lp (lq+1*2) v160 [.string y.key,.slice a1 y.ws.length c1] _ (aB Fv.out tx.out hX) Tryz.underlying46 rfl (by kernel_rfl),zR,rfl⟩
  |6,ho=>
   injection ho with ho;subst ho
   have e157:a.tmps[157]?.getD undef=.slice (some ⟨lp,lq,none⟩) b.lines.length lc:=(RY.af a 157).trans (hd 1 _ 157 rfl rfl ⟨⟨1,.data⟩,by simp,rfl,rfl⟩ (by decide));exact Or.inl ⟨.pointer (some ⟨lp,lq,none⟩),X,by simp[execOp,go_sem,e157,Rv],zR,rfl⟩
  |n+7,ho=>omega
 ·intro a X vals hX hk hV hd;have f161:=(hd 5 _ 161 rfl rfl ⟨⟨5,.data⟩,by simp,rfl,rfl⟩ (by decide)).trans (hV 5 (by decide));have f162:=(hd 6 _ 162 rfl rfl ⟨⟨6,.data⟩,by simp,rfl,rfl⟩ (by decide)).trans (hV 6 (by decide));have cp:X.there lp lq (#[.string y.key,.slice a1 y.ws.length c1]:Array Value).size:=aR (HOW.out.later hX) _ _ Qy.out;exact⟨X.setCells lp lq [.string y.key,.slice a1 y.ws.length c1],RY.dW _ _ _ rfl f162 f161 cp (by kernel_rfl) (by simp[Value.oneCell']),X,hX,rfl⟩
 ·intro vals vs X hK bg;simp only[RY.aC,Act.put,List.setIfInBounds_toArray,List.set_cons_zero,List.set_cons_succ];generalize vs 156=s156;generalize vs 157=s157;generalize vs 158=s158;generalize vs 159=s159;generalize vs 160=s160;generalize vs 161=s161;generalize vs 162=s162;clear bg;obtain⟨X0,OD,si⟩:=hK;obtain⟨W2,Hh⟩:∃ W2,W2=X0.setCells lp lq [.string y.key,.slice a1 y.ws.length c1]:=⟨_,rfl⟩
  rw[si,← Hh];clear si;have wU:=HP.out.ord;have PY:=jI.out;have tL:Marks (fun c=>c=lp) X0 W2:=by rw[Hh];exact aM (S:=fun c=>c=lp) rfl _ _ _
  have hU:=uh ((HPa.out.later OD).mks tL (fun c e=>by have:c=lp:=e;omega));have zF:=uh ((Le.out.later OD).mks tL (by have:=HFZ.out;omega));have fO:=uh (tL.own _ _ _ (HOW.out.later OD));have JE:=uh OD;have nO:=uh tL;have zy:=uh Hh;clear OD Hh tL;have b2:=hU.out.bbx.get 2 _ rfl;have bl:=hU.out.bbx.own.lt;have fa:=zF.out.at_;have fl:=zF.out.own.lt;have cp:W2.there lp (lq+2) (#[.string x.key,.slice a0 x.ws.length c0]:Array Value).size:=aR fO.out _ _ RD.out;go_wp2_with (first|(refine wpList_load_mid rfl 46 _ rfl FB 0 rfl [.string x.key,.slice a0 x.ws.length c0] _ fa Tryz.underlying46 rfl (by kernel_rfl) ?_)|(refine wpList_store_mid rfl 46 _ _ rfl lp (lq+2) #[.string x.key,.slice a0 x.ws.length c0] rfl rfl cp (by kernel_rfl) (by simp[Value.oneCell']) ?_))
  obtain⟨W3,fA⟩:∃ W3,W3=W2.setCells lp (lq+2) [.string x.key,.slice a0 x.ws.length c0]:=⟨_,rfl⟩
  rw[← fA];have wN:Marks (fun c=>c=lp) W2 W3:=by rw[fA];exact aM (S:=fun c=>c=lp) rfl _ _ _
  have jH:=uh (hU.out.mks wN (fun c e=>by have:c=lp:=e;omega));have Qh:Bel W X0:=⟨by rw[JE.out.os,gE.out.os],by rw[JE.out.tape,gE.out.tape],by rw[JE.out.output,gE.out.output],Nat.le_trans gE.out.size JE.out.size,fun c hc=>by rw[JE.out.block c (by have:=gE.out.size;omega),gE.out.block c hc]⟩
  obtain⟨Gk,hh,E3⟩:=JF.out;obtain⟨F9,r9,iK⟩:=E3 X0 W2 W3 Qh zy.out fA;have oH:=((hh.1.later Qh).bo nO.out (fun c e=>Or.inl (Or.inl (by have e:c=lp:=e;rw[e];exact hh.2.1)))).bo wN (fun c e=>Or.inl (Or.inl (by have e:c=lp:=e;rw[e];exact hh.2.1)));have EB:=oH.fill (N:=W3.heap.size) ⟨b.kind,b.name,y::x::ls⟩ (lv:=.slice (some ⟨lp,lq,none⟩) b.lines.length lc) ⟨F9,r9,fun c hc=>Or.inl ⟨by have:=hh.2.2 c (iK c hc);omega,r9.lt c hc⟩⟩ (by have:=oH.lt;omega);have NS:(s.take k).length=k:=by rw[List.length_take];have:=HN.out.1;omega
  have PC:s.take k++⟨b.kind,b.name,y::x::ls⟩::s.drop (k+1)=s.set k ⟨b.kind,b.name,y::x::ls⟩:=by rw[List.set_eq_take_append_cons_drop,if_pos HN.out.1]
  have MB:=oH.there;rw[NS]at EB MB;rw[PC]at EB;have bd:=HX.out.lt;have jK:Hid (dQ (W3.setCells xp (xo+k*3) [.string b.kind,.string b.name,.slice (some ⟨lp,lq,none⟩) b.lines.length lc]) xp xo lo (s.set k ⟨b.kind,b.name,y::x::ls⟩)∧Sw (s.set k ⟨b.kind,b.name,y::x::ls⟩)):=⟨EB,HB.out.set k _ BC.out⟩
  have jF:Hid ((s.set k ⟨b.kind,b.name,y::x::ls⟩).length=s.length∧(s.length≤maxLen∧s.length≤xc)∧k<s.length∧xp≠Q∧xp≠BX∧lo≤xp∧W3.there xp (xo+k*3) 3):=⟨by rw[List.length_set],HN.out.2.2,HN.out.1,by omega,by omega,bd.1,MB⟩
  have iG:Hid (Rd W3 R v len q∧q≤p+1000000):=⟨((HR.out.1.later Qh).mks nO.out (fun c e=>by have:c=lp:=e;omega)).mks wN (fun c e=>by have:c=lp:=e;omega),by have:=HR.out.2;omega⟩
  clear wN Qh hh E3 r9 iK oH EB NS PC MB bd wU PY fA;exact dL W0 _ R v len p _ B0 Q BX lo xp xo xc k s.length _ _ _ _ _ _ jH jK jF iG _ _ _ _ _ _ _ _ _ _ _ _ _ _ _ _ _ _ _ _ _ _ _ _ _ _ _ _ _ _ _ _ _ _ _ _ _ _ _ _ _ _ _ _ _ _ _ _ _ _ _ _ _ _ _ _ _ _ _ _ _ _ _ _ _ _ _ _ _ _ _ _ _ _ _ _ _ _ _ _ _ _ _ _ _ _ _ _ _ _ _ _ _ _ _ _ _ _ _ _ _ _ _ _ _ _ _ _ _ _ _ _ _ _ _ _ _ _ _ _ _ _ _ _ _ _ _ _ _ _ _ _ _ _ _ _ _ _ _ _ _ _ _ _ _ _ _ _ _ _ _ _ _ _ _ _ _ _ _ _ _ _ _ _ _ _ _ _ _ _ _ _ _ _ _ _ _ _ _ _ _ _ _ _ _ _ _ _ _ _ _ _ _ _
def VS5 (BX lp lq n:Nat) (b:Pl.Bl) (lc Wz:Nat) (x:Pl.Ln) (aw:Option Addr) (cw:Nat):Nat→Value→World→Prop
 |0,u,_=>u=.pointer (some ⟨BX,2,none⟩)
 |1,u,_=>u=.slice (some ⟨lp,lq,none⟩) b.lines.length lc
 |2,u,_=>u=.pointer (some ⟨BX,2,none⟩)
 |3,u,_=>u=.slice (some ⟨lp,lq,none⟩) b.lines.length lc
 |4,u,_=>u=.int .i64 (n:Int)
 |5,u,_=>u=.pointer (some ⟨lp,lq+n*2,none⟩)
 |6,u,_=>u=.agg #[.string x.key,.slice aw x.ws.length cw]
 |7,u,W=>∃ c:Nat,u=.slice (some ⟨c,0,none⟩) 1 1∧Wz≤c∧c<W.heap.size∧W.rangeAt c 0 [.string x.key,.slice aw x.ws.length cw]
 |_,_,_=>True
theorem CD (BX lp lq n:Nat) (b:Pl.Bl) (lc Wz:Nat) (x:Pl.Ln) (aw:Option Addr) (cw:Nat):∀ j u W W',Bel W W'→VS5 BX lp lq n b lc Wz x aw cw j u W→VS5 BX lp lq n b lc Wz x aw cw j u W':=by
 intro j u W W' hb h;match j with
 |0=>exact h
 |1=>exact h
 |2=>exact h
 |3=>exact h
 |4=>exact h
 |5=>exact h
 |6=>
  exact h
 |7=>
  obtain⟨c,e,h1,h2,h3⟩:=h;exact⟨c,e,h1,zL h2 hb.size,aB h3 h2 hb⟩
 |n+8=>exact trivial
theorem GG:g6 5:=by
 intro W0 W b R v len p q B0 Q BX lo xp xo xc k n s la lc HP HX HN HB HR K hK u1 u2 u3 u9 u10 u11 u12 u13 u14 u15 u16 u17 u18 u19 u20 u21 u22 u23 u24 u25 u26 u27 u28 u29 u30 u31 u32 u33 u34 u35 u36 u37 u39 u40 u41 u42 u43 u44 u45 u46 u47 u48 u49 u50 u51 u52 u53 u54 u55 u56 u57 u58 u59 u60 u61 u62 u63 u64 u65 u66 u67 u68 u69 u70 u71 u72 u73 u74 u75 u76 u77 u78 u79 u80 u81 u82 u83 u84 u85 u86 u87 u88 u89 u90 u91 u92 u93 u94 u95 u96 u97 u98 u99 u100 u101 u102 u103 u104 u105 u106 u107 u108 u109 u110 u111 u112 u113 u114 u115 u116 u117 u118 u119 u120 u121 u122 u123 u124 u125 u126 u127 u128 u129 u130 u131 u132 u133 u134 u135 u136 u137 u138 u139 u140 u141 u142 u143 u144 u145 u146 u147 u148 u149 u150 u151 u152 u153 u154 u155 u156 u157 u158 u159 u160 u161 u162 u163 u164 u165 u166 u167 u168 u169 u170 u171 u172 u173 u174 u175 u176 u177 u178 u179 u180 u181 u182 u183 u184 u185 u186 u187 u188 u189 u190 u191 u192 u193 u194 u195 u196 u197 u198;by_cases h0:b.lines.length=0
 ·have Fi:¬ (0:Int)<(b.lines.length:Int):=by omega
  have b2:=HP.out.bbx.get 2 _ rfl;have bl:=HP.out.bbx.own.lt;simp only[sw,sk6,sk5,sk4,sk3,sk2,sk1,sk0,Tryz.f36,Option.getD_some,cr,cB];go_wp2;have jK:=uh (HX.out.none HN.out.1 HB.out);have jF:=uh (HX.out.hn HN.out.1 HN.out.2.2 (s':=s) rfl);have jH:=HP;have iG:Hid (Rd W R v len q∧q≤p+1000000):=⟨HR.out.1,by have:=HR.out.2;omega⟩
  exact dL W0 _ R v len p _ B0 Q BX lo xp xo xc k s.length _ _ _ la _ lc jH jK jF iG _ _ _ _ _ _ _ _ _ _ _ _ _ _ _ _ _ _ _ _ _ _ _ _ _ _ _ _ _ _ _ _ _ _ _ _ _ _ _ _ _ _ _ _ _ _ _ _ _ _ _ _ _ _ _ _ _ _ _ _ _ _ _ _ _ _ _ _ _ _ _ _ _ _ _ _ _ _ _ _ _ _ _ _ _ _ _ _ _ _ _ _ _ _ _ _ _ _ _ _ _ _ _ _ _ _ _ _ _ _ _ _ _ _ _ _ _ _ _ _ _ _ _ _ _ _ _ _ _ _ _ _ _ _ _ _ _ _ _ _ _ _ _ _ _ _ _ _ _ _ _ _ _ _ _ _ _ _ _ _ _ _ _ _ _ _ _ _ _ _ _ _ _ _ _ _ _ _ _ _ _ _ _ _ _ _ _ _ _ _ _ _ _ _
 have HNL:Hid (n<b.lines.length):=HN.out.2.1 (by omega);obtain⟨x,hx⟩:∃ x,b.lines.getD n Pl.aK=x:=⟨_,rfl⟩
 have oB:=uh hx;obtain⟨lp,lq,aw,cw,Bk,Pb,fJ⟩:∃ lp lq aw cw,la=some ⟨lp,lq,none⟩∧W.rangeAt lp (lq+n*2) [.string x.key,.slice aw x.ws.length cw]∧(lo≤lp∧(lp≠xp∧lp<Q)∧lp<W.heap.size):=by
  obtain⟨Gk,rk,nk,hG,_⟩:=HX.out.hole;obtain⟨p2,o2,u,m,aw,cw,F2,e2,ou,ho,EY,hg,rl,_⟩:=ek rk HNL.out;rw[hx]at hg rl;exact⟨p2,o2,aw,cw,e2,hg,(hG _ ou).1,(hG _ ou).2,ho.lt⟩
 subst Bk;have I2:=uh Pb;have jI:Hid (lo≤lp∧(lp≠xp∧lp<Q)∧lp<W.heap.size):=fJ;have BY:Hid (b.lines.length≤7):=HB.out.per b (HX.out.mem HN.out.1);have BC:Hid (Pl.wbl ⟨b.kind,b.name,b.lines++[x]⟩≤300000):=by
  have h1:=(HB.out.one (HX.out.mem HN.out.1)).1;have h2:Pl.wbl b=b.kind.size+b.name.size+(b.lines.map fun x=>Pl.wln x+1).sum:=rfl;have Ls:x∈b.lines:=by
   have e:b.lines.getD n Pl.aK=b.lines[n]'HNL.out:=by simp[HNL.out]
   rw[← hx,e];exact List.getElem_mem _
  have h3:=GY Ls;show b.kind.size+b.name.size+((b.lines++[x]).map fun x=>Pl.wln x+1).sum≤300000;rw[List.map_append,List.sum_append];simp only[List.map_cons,List.map_nil,List.sum_cons,List.sum_nil];omega
 have Fi:(0:Int)<(b.lines.length:Int):=by omega
 have wO:(0:Int)≤(n:Int):=by omega
 have Je:(n:Int)<(b.lines.length:Int):=by have:=HNL.out;omega
 clear Pb fJ hx;have b2:=HP.out.bbx.get 2 _ rfl;have bl:=HP.out.bbx.own.lt;simp only[sw,sk6,sk5,sk4,sk3,sk2,sk1,sk0,Tryz.f36,Option.getD_some,cr,cB];go_upto_region 26 with fail
 clear b2 bl Fi h0;refine RY.np W zR (VS5 BX lp lq n b lc W.heap.size x aw cw) (CD _ _ _ _ _ _ _ _ _ _) (fun u W'=>∃ X row F4 la' lc',u=.slice la' (b.lines.length+1) lc'∧Rep W' false bF F4 [bT (b.lines++[x])] [u]∧(∀ c∈F4,(lo≤c∧c≠xp∧c<Q)∨W.heap.size≤c)∧Bel W X∧X.grownBy W' row∧Marks (fun c=>row=some c) X W'∧(∀ c,row=some c→c=lp)) (fun u W'=>∃ Y,(∃ X row F4 la' lc',u=.slice la' (b.lines.length+1) lc'∧Rep Y false bF F4 [bT (b.lines++[x])] [u]∧(∀ c∈F4,(lo≤c∧c≠xp∧c<Q)∨W.heap.size≤c)∧Bel W X∧X.grownBy Y row∧Marks (fun c=>row=some c) X Y∧(∀ c,row=some c→c=lp))∧W'=Y.setCell ⟨BX,2,none⟩ u) (.pointer (some ⟨BX,2,none⟩)) 8 12 144 145 (by kernel_rfl) (by kernel_rfl) (by kernel_rfl) (by kernel_rfl) (by kernel_rfl) rfl (by kernel_rfl) _ _ _ rfl rfl rfl rfl rfl rfl (by kernel_rfl) (by kernel_rfl) ?_ ?_ ?_ ?_ ?_
 ·intro i o' ho gG a X hX hk hd;have zb:=HP.out.bbx.later hX;have zc:=zb.get 2 _ rfl;have zl:=zb.own.lt;match i,ho with
  |0,ho=>
   injection ho with ho;subst ho
   have e7:a.tmps[7]?.getD undef=.pointer (some ⟨BX,0,none⟩):=(RY.af a 7).trans ((hk 7 (by kernel_rfl)).trans rfl);exact Or.inl ⟨.pointer (some ⟨BX,2,none⟩),X,by simp[execOp,go_sem,e7],zR,rfl⟩
  |1,ho=>
   injection ho with ho;subst ho
   have e136:a.tmps[136]?.getD undef=_:=(RY.af a 136).trans (hd 0 _ 136 rfl rfl ⟨⟨0,.data⟩,by simp,rfl,rfl⟩ (by decide));exact Or.inl ⟨.slice (some ⟨lp,lq,none⟩) b.lines.length lc,X,by simp[execOp,go_sem,e136,zc],zR,rfl⟩
  |2,ho=>
   injection ho with ho;subst ho
   have e7:a.tmps[7]?.getD undef=.pointer (some ⟨BX,0,none⟩):=(RY.af a 7).trans ((hk 7 (by kernel_rfl)).trans rfl);exact Or.inl ⟨.pointer (some ⟨BX,2,none⟩),X,by simp[execOp,go_sem,e7],zR,rfl⟩
  |3,ho=>
   injection ho with ho;subst ho
   have e138:a.tmps[138]?.getD undef=_:=(RY.af a 138).trans (hd 2 _ 138 rfl rfl ⟨⟨2,.data⟩,by simp,rfl,rfl⟩ (by decide));exact Or.inl ⟨.slice (some ⟨lp,lq,none⟩) b.lines.length lc,X,by simp[execOp,go_sem,e138,zc],zR,rfl⟩
  |4,ho=>
   injection ho with ho;subst ho
   have e8:a.tmps[8]?.getD undef=.int .i64 (n:Int):=(RY.af a 8).trans ((hk 8 (by kernel_rfl)).trans rfl);exact Or.inl ⟨.int .i64 (n:Int),X,by simp[execOp,go_sem,e8],zR,rfl⟩
  |5,ho=>
   injection ho with ho;subst ho
   have e139:a.tmps[139]?.getD undef=_:=(RY.af a 139).trans (hd 3 _ 139 rfl rfl ⟨⟨3,.data⟩,by simp,rfl,rfl⟩ (by decide));have e140:a.tmps[140]?.getD undef=_:=(RY.af a 140).trans (hd 4 _ 140 rfl rfl ⟨⟨4,.data⟩,by simp,rfl,rfl⟩ (by decide));exact Or.inl ⟨.pointer (some ⟨lp,lq+n*2,none⟩),X,by simp[execOp,go_sem,e139,e140,wO,Je],zR,rfl⟩
  |6,ho=>
   injection ho with ho;subst ho
   have e1:=hd 5 _ 141 rfl rfl ⟨⟨5,.data⟩,by simp,rfl,rfl⟩ (by decide);exact Or.inl ⟨_,X,ar 46 _ rfl lp (lq+n*2) e1 [.string x.key,.slice aw x.ws.length cw] _ (aB I2.out jI.out.2.2 hX) Tryz.underlying46 rfl (by kernel_rfl),zR,rfl⟩
  |7,ho=>
   injection ho with ho;subst ho
   have e142:=(RY.af a 142).trans (hd 6 _ 142 rfl rfl ⟨⟨6,.data⟩,by simp,rfl,rfl⟩ (by decide));exact Or.inl ⟨.slice (some ⟨X.heap.size,0,none⟩) 1 1,X.alloc (.cells #[.string x.key,.slice aw x.ws.length cw] 46),by simp[execOp,go_sem,e142],ae zR _,X.heap.size,rfl,hX.size,by simp,(al.new X [.string x.key,.slice aw x.ws.length cw] 46 _ rfl).at_⟩
  |n+8,ho=>omega
 ·intro a X hX hk hd;have zb:=HP.out.bbx.later hX;have zc:=zb.get 2 _ rfl;have zl:=zb.own.lt;have e0:=hd 1 _ 137 rfl rfl ⟨⟨1,.data⟩,by simp,rfl,rfl⟩ (by decide);obtain⟨c0,e1,mJ,lQ,yw⟩:=hd 7 _ 143 rfl rfl ⟨⟨7,.data⟩,by simp,rfl,rfl⟩ (by decide);have MV:=HX.out.later hX;obtain⟨Gk,rk,nk,hG,hh⟩:=MV.hole;obtain⟨p2,o2,u,m,aw2,Jp,F2,e2,ou,ho,EY,hg,rl,⟨G2,KY,fk⟩,_⟩:=ek rk HNL.out;injection e2 with e2
  injection e2 with e3 e4 _
  subst e3;subst e4;rw[oB.out]at rl hg;have nN:some (Value.slice aw2 x.ws.length Jp)=some (.slice aw x.ws.length cw):=(aE hg 1 _ rfl).symm.trans (aE (aB I2.out jI.out.2.2 hX) 1 _ rfl);injection nN with nN
  injection nN with nN _ hgc2
  subst nN;subst hgc2;have nk2:=nk;rw[KY]at nk2;have JC:=(List.nodup_cons.1 nk2).1;have SF:∀ p G,Gk=p::G→p=lp∧G=G2:=fun p G e=>by rw[KY]at e;injection e with e5 e6;exact⟨e5.symm,e6.symm⟩
  obtain⟨v',X',F4,row,dM,rep,nd4,jL,fw,ep,fz⟩:=lC (P:=Tryz.prog) 39 39 46 2 40 _ Tryz.cI Tryz.jQ rfl (by decide) aA rfl X rk (fun p G e=>by obtain⟨e5,e6⟩:=SF p G e;rw[e5,e6];exact JC) (by have:=BY.out;omega) (F':=F2) (d:=lnD x) (c':=[.string x.key,.slice aw2 x.ws.length Jp]) ⟨c0,0,none⟩ rl (fun p G e hb=>by obtain⟨e5,e6⟩:=SF p G e;subst e5;exact JC (fk _ hb)) (fun j y hy=>by have:=yw j y hy;rw[Addr.add_mid];exact this);obtain⟨la',lc',FH⟩:=rep.raw.bm;subst FH;refine⟨_,X',aQ (.tmp 137) (.tmp 143) 39 rfl e0 e1 dM,X,row,F4,la',lc',rfl, ?_, ?_,hX,fw,fz,fun c e=>by obtain⟨G,hG5⟩:=ep c e;exact(SF c G hG5).1⟩
  ·have e:bT (b.lines++[x])=.row (b.lines.length+1) (b.lines.flatMap lnD++lnD x):=by unfold bT;rw[List.flatMap_append,List.flatMap_singleton,List.length_append,List.length_singleton]
   rw[e];exact rep
  ·intro c hc;rcases jL c hc with e|e|e
   ·exact Or.inl ⟨(hG c e).1,(hG c e).2.1,(hG c e).2.2⟩
   ·have:=hG c (by rw[KY];exact List.mem_cons_of_mem _ (fk c e));exact Or.inl ⟨this.1,this.2.1,this.2.2⟩
   ·exact Or.inr (by have:=hX.size;omega)
 ·intro a X hk;have e3:a.tmps[7]?.getD undef=.pointer (some ⟨BX,0,none⟩):=(RY.af a 7).trans ((hk 7 (by kernel_rfl)).trans rfl);simp[execOp,go_sem,e3]
 ·intro a X hK hp;obtain⟨Y,row,F4,la',lc',e1,hr,hF,hb,hg,fz,zD⟩:=hK;have t1:=(RY.af a 144).trans e1;have t2:=(RY.af a 145).trans hp;have PY:=jI.out;have wU:=HP.out.ord;have FQ:=(HP.out.later hb).grow hg (fun c e=>by have:=zD c e;omega);have z2:=FQ.bbx.get 2 _ rfl;have zf:=FQ.bbx.own.frozen 2;have zl:=FQ.bbx.own.lt;refine⟨X.setCell ⟨BX,2,none⟩ (.slice la' (b.lines.length+1) lc'),by simp[execOp,go_sem,t1,t2,z2,zf],X,⟨Y,row,F4,la',lc',e1,hr,hF,hb,hg,fz,zD⟩,by rw[e1]⟩
 ·rintro vals X hK e2;simp only[RY.aC,Act.put,List.setIfInBounds_toArray,List.set_cons_zero,List.set_cons_succ];rw[e2];generalize vals 136=s136;generalize vals 137=s137;generalize vals 138=Bf;generalize vals 139=s139;generalize vals 140=s140;generalize vals 141=s141;generalize vals 142=s142;generalize vals 143=s143;obtain⟨Y,⟨X0,row,F4,la',lc',e1,hr,hF,hb,hg,fz,zD⟩,fA⟩:=hK;rw[e1]at hr fA ⊢;clear e1;obtain⟨W3,ID⟩:∃ W3,W3=Y.setCell ⟨BX,2,none⟩ (.slice la' (b.lines.length+1) lc'):=⟨_,rfl⟩
  rw[fA,← ID];clear fA;have PY:=jI.out;have wU:=HP.out.ord;have bd:=HX.out.lt;have FQ:=(HP.out.later hb).grow hg (fun c e=>by have:=zD c e;omega);have hm:Marks (fun b=>b=BX) Y W3:=by rw[ID];exact Marks.sc (S:=fun b=>b=BX) Y rfl _ _
  have jH:=uh (FQ.Gm hm (by rw[ID];exact FQ.bbx.set 2 (.slice la' (b.lines.length+1) lc') (by simp)));obtain⟨Gk,rk,nk,hG,hh⟩:=(HX.out.later hb).hole;obtain⟨p2,o2,_,_,_,_,_,e2,ou,_⟩:=ek rk HNL.out;injection e2 with e2
  injection e2 with e3 e4 _
  subst e3;subst e4;have oH:=(hh.bo fz (fun c e=>Or.inl (Or.inl (by rw[zD c e];exact ou)))).bo hm (fun c e=>Or.inl (Or.inr (by have:c=BX:=e;omega)));have qT:=hr.bo hm (fun c hc e=>by have e:c=BX:=e;have:=hF c hc;omega);have mP:=hb.size;have tM:=hg.size;have Me:=hm.size;have EB:=oH.fill (N:=W3.heap.size) ⟨b.kind,b.name,b.lines++[x]⟩ (lv:=.slice la' (b.lines.length+1) lc') ⟨F4,qT,fun c hc=>Or.inl ⟨by have:=hF c hc;omega,qT.lt c hc⟩⟩ (by omega);have NS:(s.take k).length=k:=by rw[List.length_take];have:=HN.out.1;omega
  have PC:s.take k++⟨b.kind,b.name,b.lines++[x]⟩::s.drop (k+1)=s.set k ⟨b.kind,b.name,b.lines++[x]⟩:=by rw[List.set_eq_take_append_cons_drop,if_pos HN.out.1]
  have cp:=oH.there;rw[NS]at EB cp;rw[PC]at EB;have jK:Hid (dQ (W3.setCells xp (xo+k*3) [.string b.kind,.string b.name,.slice la' (b.lines.length+1) lc']) xp xo lo (s.set k ⟨b.kind,b.name,b.lines++[x]⟩)∧Sw (s.set k ⟨b.kind,b.name,b.lines++[x]⟩)):=⟨EB,HB.out.set k _ BC.out⟩
  have jF:Hid ((s.set k ⟨b.kind,b.name,b.lines++[x]⟩).length=s.length∧(s.length≤maxLen∧s.length≤xc)∧k<s.length∧xp≠Q∧xp≠BX∧lo≤xp∧W3.there xp (xo+k*3) 3):=⟨by rw[List.length_set],HN.out.2.2,HN.out.1,by omega,by omega,bd.1,cp⟩
  have iG:Hid (Rd W3 R v len q∧q≤p+1000000):=⟨((HR.out.1.later hb).grown hg (fun c e=>by have:=zD c e;omega)).mks hm (fun c e=>by have:c=BX:=e;omega),by have:=HR.out.2;omega⟩
  clear ID hr hF hb hg fz zD FQ hm rk nk hG hh oH qT EB cp PC NS PY wU bd mP tM Me e2;go_wp2;exact dL W0 _ R v len p _ B0 Q BX lo xp xo xc k s.length _ _ _ _ _ _ jH jK jF iG _ _ _ _ _ _ _ _ _ _ _ _ _ _ _ _ _ _ _ _ _ _ _ _ _ _ _ _ _ _ _ _ _ _ _ _ _ _ _ _ _ _ _ _ _ _ _ _ _ _ _ _ _ _ _ _ _ _ _ _ _ _ _ _ _ _ _ _ _ _ _ _ _ _ _ _ _ _ _ _ _ _ _ _ _ _ _ _ _ _ _ _ _ _ _ _ _ _ _ _ _ _ _ _ _ _ _ _ _ _ _ _ _ _ _ _ _ _ _ _ _ _ _ _ _ _ _ _ _ _ _ _ _ _ _ _ _ _ _ _ _ _ _ _ _ _ _ _ _ _ _ _ _ _ _ _ _ _ _ _ _ _ _ _ _ _ _ _ _ _ _ _ _ _ _ _ _ _ _ _ _ _ _ _ _ _ _ _ _ _ _ _ _ _
def VS4 (R:Nat) (BX lp lq ln lc n wp wo wn cw:Nat):Nat→Value→World→Prop
 |0,u,_=>u=.pointer (some ⟨BX,2,none⟩)
 |1,u,_=>u=.slice (some ⟨lp,lq,none⟩) ln lc
 |2,u,_=>u=.int .i64 (n:Int)
 |3,u,_=>u=.pointer (some ⟨lp,lq+n*2,none⟩)
 |4,u,_=>u=.pointer (some ⟨lp,lq+n*2+1,none⟩)
 |5,u,_=>u=.slice (some ⟨wp,wo,none⟩) wn cw
 |6,u,_=>u=.pointer (some ⟨R,0,none⟩)
 |7,u,_=>∃ x:ByteArray,x.size≤250∧u=.string x
 |8,u,_=>u=.pointer (some ⟨wp,wo,none⟩)
 |_,_,_=>True
theorem Db (R:Nat) (BX lp lq ln lc n wp wo wn cw:Nat):∀ j u W W',Fr R W W'→R<W.heap.size→VS4 R BX lp lq ln lc n wp wo wn cw j u W→VS4 R BX lp lq ln lc n wp wo wn cw j u W':=by
 intro j u W W' hb bd h;match j with
 |0=>exact h
 |1=>exact h
 |2=>exact h
 |3=>exact h
 |4=>exact h
 |5=>exact h
 |6=>exact h
 |7=>exact h
 |8=>exact h
 |n+9=>exact trivial
theorem G8:g6 4:=by
 intro W0 W b R v len p q B0 Q BX lo xp xo xc k n s la lc HP HX HN HB HR K hK u1 u2 u3 u9 u10 u11 u12 u13 u14 u15 u16 u17 u18 u19 u20 u21 u22 u23 u24 u25 u26 u27 u28 u29 u30 u31 u32 u33 u34 u35 u36 u37 u39 u40 u41 u42 u43 u44 u45 u46 u47 u48 u49 u50 u51 u52 u53 u54 u55 u56 u57 u58 u59 u60 u61 u62 u63 u64 u65 u66 u67 u68 u69 u70 u71 u72 u73 u74 u75 u76 u77 u78 u79 u80 u81 u82 u83 u84 u85 u86 u87 u88 u89 u90 u91 u92 u93 u94 u95 u96 u97 u98 u99 u100 u101 u102 u103 u104 u105 u106 u107 u108 u109 u110 u111 u112 u113 u114 u115 u116 u117 u118 u119 u120 u121 u122 u123 u124 u125 u126 u127 u128 u129 u130 u131 u132 u133 u134 u135 u136 u137 u138 u139 u140 u141 u142 u143 u144 u145 u146 u147 u148 u149 u150 u151 u152 u153 u154 u155 u156 u157 u158 u159 u160 u161 u162 u163 u164 u165 u166 u167 u168 u169 u170 u171 u172 u173 u174 u175 u176 u177 u178 u179 u180 u181 u182 u183 u184 u185 u186 u187 u188 u189 u190 u191 u192 u193 u194 u195 u196 u197 u198;by_cases h0:b.lines.length=0
 ·have Fi:¬ (0:Int)<(b.lines.length:Int):=by omega
  have b2:=HP.out.bbx.get 2 _ rfl;have bl:=HP.out.bbx.own.lt;simp only[sw,sk6,sk5,sk4,sk3,sk2,sk1,sk0,Tryz.f36,Option.getD_some,cr,cB];go_wp2;have jK:=uh (HX.out.none HN.out.1 HB.out);have jF:=uh (HX.out.hn HN.out.1 HN.out.2.2 (s':=s) rfl);have jH:=HP;have iG:Hid (Rd W R v len q∧q≤p+1000000):=⟨HR.out.1,by have:=HR.out.2;omega⟩
  exact dL W0 _ R v len p _ B0 Q BX lo xp xo xc k s.length _ _ _ la _ lc jH jK jF iG _ _ _ _ _ _ _ _ _ _ _ _ _ _ _ _ _ _ _ _ _ _ _ _ _ _ _ _ _ _ _ _ _ _ _ _ _ _ _ _ _ _ _ _ _ _ _ _ _ _ _ _ _ _ _ _ _ _ _ _ _ _ _ _ _ _ _ _ _ _ _ _ _ _ _ _ _ _ _ _ _ _ _ _ _ _ _ _ _ _ _ _ _ _ _ _ _ _ _ _ _ _ _ _ _ _ _ _ _ _ _ _ _ _ _ _ _ _ _ _ _ _ _ _ _ _ _ _ _ _ _ _ _ _ _ _ _ _ _ _ _ _ _ _ _ _ _ _ _ _ _ _ _ _ _ _ _ _ _ _ _ _ _ _ _ _ _ _ _ _ _ _ _ _ _ _ _ _ _ _ _ _ _ _ _ _ _ _ _ _ _ _ _ _
 have HNL:Hid (n<b.lines.length):=HN.out.2.1 (by omega);obtain⟨x,hx⟩:∃ x,b.lines.getD n Pl.aK=x:=⟨_,rfl⟩
 have oB:=uh hx;obtain⟨lp,lq,aw,cw,Bk,Pb,fJ,FJ⟩:∃ lp lq aw cw,la=some ⟨lp,lq,none⟩∧W.cell? ⟨lp,lq+n*2+1,none⟩=some (.slice aw x.ws.length cw)∧(lo≤lp∧lp≠xp∧lp<W.heap.size)∧(0<x.ws.length→∃ wp wo,aw=some ⟨wp,wo,none⟩):=by
  obtain⟨Gk,rk,nk,hG,_⟩:=HX.out.hole;obtain⟨p2,o2,u,m,aw,cw,F2,e2,ou,ho,EY,hg,rl,_⟩:=ek rk HNL.out;rw[hx]at hg rl;refine⟨p2,o2,aw,cw,e2,aE hg 1 _ rfl,⟨(hG _ ou).1,(hG _ ou).2.1,ho.lt⟩,fun h=> ?_⟩;obtain⟨p3,o3,_,_,_,e5,_⟩:=pr rl h;exact⟨p3,o3,e5⟩
 subst Bk;have N9:=uh Pb;have jI:=uh fJ;have Fi:(0:Int)<(b.lines.length:Int):=by omega
 have wO:(0:Int)≤(n:Int):=by omega
 have Je:(n:Int)<(b.lines.length:Int):=by have:=HNL.out;omega
 clear Pb fJ hx;by_cases w0:x.ws.length=0
 ·have Bp:¬ (0:Int)<(x.ws.length:Int):=by omega
  clear FJ;have b2:=HP.out.bbx.get 2 _ rfl;have bl:=HP.out.bbx.own.lt;have yc0:=N9.out;have yl0:=jI.out.2.2;simp only[sw,sk6,sk5,sk4,sk3,sk2,sk1,sk0,Tryz.f36,Option.getD_some,cr,cB];go_wp2;have jK:=uh (HX.out.none HN.out.1 HB.out);have jF:=uh (HX.out.hn HN.out.1 HN.out.2.2 (s':=s) rfl);have jH:=HP;have iG:Hid (Rd W R v len q∧q≤p+1000000):=⟨HR.out.1,by have:=HR.out.2;omega⟩
  exact dL W0 _ R v len p _ B0 Q BX lo xp xo xc k s.length _ _ _ _ _ lc jH jK jF iG _ _ _ _ _ _ _ _ _ _ _ _ _ _ _ _ _ _ _ _ _ _ _ _ _ _ _ _ _ _ _ _ _ _ _ _ _ _ _ _ _ _ _ _ _ _ _ _ _ _ _ _ _ _ _ _ _ _ _ _ _ _ _ _ _ _ _ _ _ _ _ _ _ _ _ _ _ _ _ _ _ _ _ _ _ _ _ _ _ _ _ _ _ _ _ _ _ _ _ _ _ _ _ _ _ _ _ _ _ _ _ _ _ _ _ _ _ _ _ _ _ _ _ _ _ _ _ _ _ _ _ _ _ _ _ _ _ _ _ _ _ _ _ _ _ _ _ _ _ _ _ _ _ _ _ _ _ _ _ _ _ _ _ _ _ _ _ _ _ _ _ _ _ _ _ _ _ _ _ _ _ _ _ _ _ _ _ _ _ _ _ _ _ _
 have kz:Hid (0<x.ws.length):=by show 0<_;omega
 have wR:(0:Int)<(x.ws.length:Int):=by omega
 have JL:0<x.ws.length:=kz.out;obtain⟨wp,wo,haw⟩:=FJ kz.out;subst haw;have b2:=HP.out.bbx.get 2 _ rfl;have bl:=HP.out.bbx.own.lt;have yc0:=N9.out;have yl0:=jI.out.2.2;simp only[sw,sk6,sk5,sk4,sk3,sk2,sk1,sk0,Tryz.f36,Option.getD_some,cr,cB];go_upto_region 23 with fail
 clear b2 bl yc0 yl0 Fi h0 w0;refine RY.kE R v len q HR.out.1 (VS4 R BX lp lq b.lines.length lc n wp wo x.ws.length cw) (Db R _ _ _ _ _ _ _ _ _ _) (fun _ W'=>∃ t X q',t.size≤250∧Fr R W X∧Rd X R v len q'∧q'≤q+20000∧W'=X.setCell ⟨wp,wo,none⟩ (.string t)) 9 14 (by kernel_rfl) (by kernel_rfl) (by kernel_rfl) (by kernel_rfl) rfl [7,8] (by kernel_rfl) (by kernel_rfl) _ rfl rfl (by kernel_rfl) ?_ ?_ ?_
 ·intro i' o' ho gG a X pp hX hR wT hk hd;have zb:=HP.out.bbx.fr hX (by have:=HP.out.ord;omega);have zc:=zb.get 2 _ rfl;have zl:=zb.own.lt;have yc:=(hX.cell (k:=lp) (j:=lq+n*2+1) (by have:=jI.out;have:=HP.out.ord;omega) jI.out.2.2).trans N9.out;have ylx:=zL jI.out.2.2 hX.bel.size;match i',ho with
  |0,ho=>
   injection ho with ho;subst ho
   have e7:a.tmps[7]?.getD undef=.pointer (some ⟨BX,0,none⟩):=(RY.af a 7).trans ((hk 7 (by kernel_rfl)).trans rfl);exact Or.inl ⟨.pointer (some ⟨BX,2,none⟩),X,by simp[execOp,go_sem,e7],zR,rfl⟩
  |1,ho=>
   injection ho with ho;subst ho
   have e121:a.tmps[121]?.getD undef=_:=(RY.af a 121).trans (hd 0 _ 121 rfl rfl ⟨⟨0,.data⟩,by simp,rfl,rfl⟩ (by decide));exact Or.inl ⟨.slice (some ⟨lp,lq,none⟩) b.lines.length lc,X,by simp[execOp,go_sem,e121,zc],zR,rfl⟩
  |2,ho=>
   injection ho with ho;subst ho
   have e8:a.tmps[8]?.getD undef=.int .i64 (n:Int):=(RY.af a 8).trans ((hk 8 (by kernel_rfl)).trans rfl);exact Or.inl ⟨.int .i64 (n:Int),X,by simp[execOp,go_sem,e8],zR,rfl⟩
  |3,ho=>
   injection ho with ho;subst ho
   have e122:a.tmps[122]?.getD undef=_:=(RY.af a 122).trans (hd 1 _ 122 rfl rfl ⟨⟨1,.data⟩,by simp,rfl,rfl⟩ (by decide));have e123:a.tmps[123]?.getD undef=_:=(RY.af a 123).trans (hd 2 _ 123 rfl rfl ⟨⟨2,.data⟩,by simp,rfl,rfl⟩ (by decide));exact Or.inl ⟨.pointer (some ⟨lp,lq+n*2,none⟩),X,by simp[execOp,go_sem,e122,e123,wO,Je],zR,rfl⟩
  |4,ho=>
   injection ho with ho;subst ho
   have e124:a.tmps[124]?.getD undef=_:=(RY.af a 124).trans (hd 3 _ 124 rfl rfl ⟨⟨3,.data⟩,by simp,rfl,rfl⟩ (by decide));exact Or.inl ⟨.pointer (some ⟨lp,lq+n*2+1,none⟩),X,by simp[execOp,go_sem,e124],zR,rfl⟩
  |5,ho=>
   injection ho with ho;subst ho
   have e125:a.tmps[125]?.getD undef=_:=(RY.af a 125).trans (hd 4 _ 125 rfl rfl ⟨⟨4,.data⟩,by simp,rfl,rfl⟩ (by decide));exact Or.inl ⟨.slice (some ⟨wp,wo,none⟩) x.ws.length cw,X,by simp[execOp,go_sem,e125,yc],zR,rfl⟩
  |6,ho=>
   injection ho with ho;subst ho
   have e0:a.tmps[0]?.getD undef=.pointer (some ⟨R,0,none⟩):=(RY.af a 0).trans ((hk 0 (by kernel_rfl)).trans rfl);exact Or.inl ⟨.pointer (some ⟨R,0,none⟩),X,by simp[execOp,go_sem,e0],zR,rfl⟩
  |7,ho=>
   injection ho with ho;subst ho
   have e127:a.tmps[127]?.getD undef=_:=(RY.af a 127).trans (hd 6 _ 127 rfl rfl ⟨⟨6,.data⟩,by simp,rfl,rfl⟩ (by decide));refine Or.inr ⟨65,#[.pointer (some ⟨R,0,none⟩)],by simp[go_sem,e127],(Cm R v len pp X hR (by have:=HR.out.2;omega)).mono ?_⟩;rintro e W' ⟨⟨x,rfl,hx⟩,hF,q2,BV,Ia⟩;exact⟨_,rfl,hF,⟨q2,BV,Ia⟩,x,hx,rfl⟩
  |8,ho=>
   injection ho with ho;subst ho
   have e126:a.tmps[126]?.getD undef=_:=(RY.af a 126).trans (hd 5 _ 126 rfl rfl ⟨⟨5,.data⟩,by simp,rfl,rfl⟩ (by decide));exact Or.inl ⟨.pointer (some ⟨wp,wo,none⟩),X,by simp[execOp,go_sem,e126,JL],zR,rfl⟩
  |n+9,ho=>omega
 ·intro a X vals pp hX hR wT hk hV hd;obtain⟨t,ht,e128⟩:=hV 7 (by decide);have f128:=(RY.af a 128).trans ((hd 7 _ 128 rfl rfl ⟨⟨7,.data⟩,by simp,rfl,rfl⟩ (by decide)).trans e128);have f129:=(RY.af a 129).trans ((hd 8 _ 129 rfl rfl ⟨⟨8,.data⟩,by simp,rfl,rfl⟩ (by decide)).trans (hV 8 (by decide)));have MV:=HX.out.step hX HR.out.1 hR (by have:=HP.out.ord;omega);obtain⟨Gk,rk,nk,hG,hh⟩:=MV.hole;have yc:=(hX.cell (k:=lp) (j:=lq+n*2+1) (by have:=jI.out;have:=HP.out.ord;omega) jI.out.2.2).trans N9.out;have ylx:=zL jI.out.2.2 hX.bel.size;obtain⟨p2,o2,_,_,aw,Jp,F2,e2,R0,_,_,ny,rl,⟨G2,KY,fk⟩,_⟩:=ek rk HNL.out;injection e2 with e2
  injection e2 with e3 e4 _
  subst e3;subst e4;rw[oB.out]at rl ny;have nT:=aE ny 1 _ rfl;have nN:some (Value.slice aw x.ws.length Jp)=some (.slice (some ⟨wp,wo,none⟩) x.ws.length cw):=nT.symm.trans (by first|exact yc|exact OC);injection nN with nN
  injection nN with nN _ hgc2
  subst nN;subst hgc2;obtain⟨p3,o3,u,m,x0,e5,B2,ho,EY,oy⟩:=pr rl kz.out;injection e5 with e5
  injection e5 with e6 e7 _
  subst e6;subst e7;have ou:wp∈Gk:=by rw[KY];exact List.mem_cons_of_mem _ (fk _ B2)
  have JN:=ho.frozen;have hz:=ho.lt;refine⟨X.setCell ⟨wp,wo,none⟩ (.string t), ?_,t,X,pp,ht,hX,hR,by omega,rfl⟩;simp[execOp,go_sem,f129,f128,oy,JN]
 ·rintro vals vs X Bh bg;simp only[RY.aC,Act.put,List.setIfInBounds_toArray,List.set_cons_zero,List.set_cons_succ];generalize vs 121=s121,vs 122=s122,vs 123=s123,vs 124=s124,vs 125=s125,vs 126=s126,vs 127=s127,vs 128=s128,vs 129=s129;clear bg;obtain⟨t,X1,q',ht,oF,mL,yC,fA⟩:=Bh;subst fA;obtain⟨W3,fA⟩:∃ W3,W3=X1.setCell ⟨wp,wo,none⟩ (.string t):=⟨_,rfl⟩
  rw[← fA];have Lr:=HX.out.step oF HR.out.1 mL (by have:=HP.out.ord;omega);obtain⟨Gk,rk,nk,hG,hh⟩:=Lr.hole;have OC:=(oF.cell (k:=lp) (j:=lq+n*2+1) (by have:=jI.out;have:=HP.out.ord;omega) jI.out.2.2).trans N9.out;obtain⟨p2,o2,_,_,aw,Jp,F2,e2,R0,_,_,ny,rl,⟨G2,KY,fk⟩,_⟩:=ek rk HNL.out;injection e2 with e2
  injection e2 with e3 e4 _
  subst e3;subst e4;rw[oB.out]at rl ny;have nT:=aE ny 1 _ rfl;have nN:some (Value.slice aw x.ws.length Jp)=some (.slice (some ⟨wp,wo,none⟩) x.ws.length cw):=nT.symm.trans (by first|exact yc|exact OC);injection nN with nN
  injection nN with nN _ hgc2
  subst nN;subst hgc2;obtain⟨p3,o3,u,m,x0,e5,B2,ho,EY,oy⟩:=pr rl kz.out;injection e5 with e5
  injection e5 with e6 e7 _
  subst e6;subst e7;have ou:wp∈Gk:=by rw[KY];exact List.mem_cons_of_mem _ (fk _ B2)
  have hb:=hG wp ou;obtain⟨s',h9,N6,Of⟩:=DR (HP.out.step oF) Lr HN.out.1 HN.out.2.2 HB.out (B:=wp) (O:=wo) ⟨hb.1,hb.2.2,hb.2.1⟩ ho (by omega) oy ht W3 fA;have jH:=uh h9;have jK:=uh N6;have jF:=uh Of;have hm:Marks (fun b=>b=wp) X1 W3:=by rw[fA];exact Marks.sc (S:=fun b=>b=wp) X1 rfl _ _
  have iG:Hid (Rd W3 R v len q'∧q'≤p+1000000):=⟨mL.mks hm (fun c e=>by have:c=wp:=e;have:=HP.out.ord;omega),by have:=HR.out.2;omega⟩
  clear h9 N6 Of hm hb fA Lr rk nk hG hh oF mL yC ht ho oy;go_wp2;exact dL W0 _ R v len p _ B0 Q BX lo xp xo xc k s.length _ _ _ _ _ lc jH jK jF iG _ _ _ _ _ _ _ _ _ _ _ _ _ _ _ _ _ _ _ _ _ _ _ _ _ _ _ _ _ _ _ _ _ _ _ _ _ _ _ _ _ _ _ _ _ _ _ _ _ _ _ _ _ _ _ _ _ _ _ _ _ _ _ _ _ _ _ _ _ _ _ _ _ _ _ _ _ _ _ _ _ _ _ _ _ _ _ _ _ _ _ _ _ _ _ _ _ _ _ _ _ _ _ _ _ _ _ _ _ _ _ _ _ _ _ _ _ _ _ _ _ _ _ _ _ _ _ _ _ _ _ _ _ _ _ _ _ _ _ _ _ _ _ _ _ _ _ _ _ _ _ _ _ _ _ _ _ _ _ _ _ _ _ _ _ _ _ _ _ _ _ _ _ _ _ _ _ _ _ _ _ _ _ _ _ _ _ _ _ _ _ _ _ _
def mZ:List ByteArray:=[{data:=#[]},{data:=#[105,109,97,103,101]},{data:=#[122,111,110,101]}]
theorem Ex:∀ k∈mZ,k.size≤250:=by decide+kernel
def VS3 (R:Nat) (BX lp lq ln lc n:Nat):Nat→Value→World→Prop
 |0,u,_=>u=.pointer (some ⟨BX,2,none⟩)
 |1,u,_=>u=.slice (some ⟨lp,lq,none⟩) ln lc
 |2,u,_=>u=.int .i64 (n:Int)
 |3,u,W=>∃ c:Nat,u=.slice (some ⟨c,0,none⟩) 3 3∧R<c∧c<W.heap.size∧∀ j,j<3→W.cell? ⟨c,j,none⟩=some (.string (mZ.getD j ⟨#[]⟩))
 |4,u,_=>u=.pointer (some ⟨R,0,none⟩)
 |5,u,_=>∃ j:Nat,u=.int .i64 (j:Int)∧j<3
 |6,u,W=>∃ c j:Nat,u=.pointer (some ⟨c,j,none⟩)∧R<c∧c<W.heap.size∧∃ x∈mZ,W.cell? ⟨c,j,none⟩=some (.string x)
 |7,u,_=>∃ x∈mZ,u=.string x
 |8,u,_=>u=.pointer (some ⟨lp,lq+n*2,none⟩)
 |9,u,_=>u=.pointer (some ⟨lp,lq+n*2,none⟩)
 |_,_,_=>True
theorem DK (R:Nat) (BX lp lq ln lc n:Nat):∀ j u W W',Fr R W W'→R<W.heap.size→VS3 R BX lp lq ln lc n j u W→VS3 R BX lp lq ln lc n j u W':=by
 intro j u W W' hb bd h;match j with
 |0=>exact h
 |1=>exact h
 |2=>exact h
 |3=>
  obtain⟨c,e,h1,h2,hc⟩:=h;exact⟨c,e,h1,zL h2 hb.bel.size,fun j hj=>(hb.cell h1 h2).trans (hc j hj)⟩
 |4=>exact h
 |5=>exact h
 |6=>
  obtain⟨c,j,e,h1,h2,x,hx,hc⟩:=h;exact⟨c,j,e,h1,zL h2 hb.bel.size,x,hx,(hb.cell h1 h2).trans hc⟩
 |7=>exact h
 |8=>exact h
 |9=>exact h
 |n+10=>exact trivial
theorem FY:g6 3:=by
 intro W0 W b R v len p q B0 Q BX lo xp xo xc k n s la lc HP HX HN HB HR K hK u1 u2 u3 u9 u10 u11 u12 u13 u14 u15 u16 u17 u18 u19 u20 u21 u22 u23 u24 u25 u26 u27 u28 u29 u30 u31 u32 u33 u34 u35 u36 u37 u39 u40 u41 u42 u43 u44 u45 u46 u47 u48 u49 u50 u51 u52 u53 u54 u55 u56 u57 u58 u59 u60 u61 u62 u63 u64 u65 u66 u67 u68 u69 u70 u71 u72 u73 u74 u75 u76 u77 u78 u79 u80 u81 u82 u83 u84 u85 u86 u87 u88 u89 u90 u91 u92 u93 u94 u95 u96 u97 u98 u99 u100 u101 u102 u103 u104 u105 u106 u107 u108 u109 u110 u111 u112 u113 u114 u115 u116 u117 u118 u119 u120 u121 u122 u123 u124 u125 u126 u127 u128 u129 u130 u131 u132 u133 u134 u135 u136 u137 u138 u139 u140 u141 u142 u143 u144 u145 u146 u147 u148 u149 u150 u151 u152 u153 u154 u155 u156 u157 u158 u159 u160 u161 u162 u163 u164 u165 u166 u167 u168 u169 u170 u171 u172 u173 u174 u175 u176 u177 u178 u179 u180 u181 u182 u183 u184 u185 u186 u187 u188 u189 u190 u191 u192 u193 u194 u195 u196 u197 u198;by_cases h0:b.lines.length=0
 ·have Fi:¬ (0:Int)<(b.lines.length:Int):=by omega
  have b2:=HP.out.bbx.get 2 _ rfl;have bl:=HP.out.bbx.own.lt;simp only[sw,sk6,sk5,sk4,sk3,sk2,sk1,sk0,Tryz.f36,Option.getD_some,cr,cB];go_wp2;have jK:=uh (HX.out.none HN.out.1 HB.out);have jF:=uh (HX.out.hn HN.out.1 HN.out.2.2 (s':=s) rfl);have jH:=HP;have iG:Hid (Rd W R v len q∧q≤p+1000000):=⟨HR.out.1,by have:=HR.out.2;omega⟩
  exact dL W0 _ R v len p _ B0 Q BX lo xp xo xc k s.length _ _ _ la _ lc jH jK jF iG _ _ _ _ _ _ _ _ _ _ _ _ _ _ _ _ _ _ _ _ _ _ _ _ _ _ _ _ _ _ _ _ _ _ _ _ _ _ _ _ _ _ _ _ _ _ _ _ _ _ _ _ _ _ _ _ _ _ _ _ _ _ _ _ _ _ _ _ _ _ _ _ _ _ _ _ _ _ _ _ _ _ _ _ _ _ _ _ _ _ _ _ _ _ _ _ _ _ _ _ _ _ _ _ _ _ _ _ _ _ _ _ _ _ _ _ _ _ _ _ _ _ _ _ _ _ _ _ _ _ _ _ _ _ _ _ _ _ _ _ _ _ _ _ _ _ _ _ _ _ _ _ _ _ _ _ _ _ _ _ _ _ _ _ _ _ _ _ _ _ _ _ _ _ _ _ _ _ _ _ _ _ _ _ _ _ _ _ _ _ _ _ _ _
 have HNL:Hid (n<b.lines.length):=HN.out.2.1 (by omega);obtain⟨lp,lq,Bk⟩:∃ lp lq,la=some ⟨lp,lq,none⟩:=by
  obtain⟨Gk,rk,_⟩:=HX.out.hole;obtain⟨p2,o2,_,_,_,_,_,e2,_⟩:=ek rk HNL.out;exact⟨p2,o2,e2⟩
 subst Bk;have Fi:(0:Int)<(b.lines.length:Int):=by omega
 have wO:(0:Int)≤(n:Int):=by omega
 have Je:(n:Int)<(b.lines.length:Int):=by have:=HNL.out;omega
 have b2:=HP.out.bbx.get 2 _ rfl;have bl:=HP.out.bbx.own.lt;simp only[sw,sk6,sk5,sk4,sk3,sk2,sk1,sk0,Tryz.f36,Option.getD_some,cr,cB];go_upto_region 20 with fail
 clear b2 bl Fi h0;refine RY.kE R v len q HR.out.1 (VS3 R BX lp lq b.lines.length lc n) (DK R _ _ _ _ _ _) (fun _ W'=>∃ t X q',t.size≤250∧Fr R W X∧Rd X R v len q'∧q'≤q+20000∧W'=X.setCell ⟨lp,lq+n*2,none⟩ (.string t)) 10 14 (by kernel_rfl) (by kernel_rfl) (by kernel_rfl) (by kernel_rfl) rfl [7,9] (by kernel_rfl) (by kernel_rfl) _ rfl rfl (by kernel_rfl) ?_ ?_ ?_
 ·intro i' o' ho gG a X pp hX hR wT hk hd;have zb:=HP.out.bbx.fr hX (by have:=HP.out.ord;omega);have zc:=zb.get 2 _ rfl;have zl:=zb.own.lt;match i',ho with
  |0,ho=>
   injection ho with ho;subst ho
   have e7:a.tmps[7]?.getD undef=.pointer (some ⟨BX,0,none⟩):=(RY.af a 7).trans ((hk 7 (by kernel_rfl)).trans rfl);exact Or.inl ⟨.pointer (some ⟨BX,2,none⟩),X,by simp[execOp,go_sem,e7],zR,rfl⟩
  |1,ho=>
   injection ho with ho;subst ho
   have e95:a.tmps[95]?.getD undef=_:=(RY.af a 95).trans (hd 0 _ 95 rfl rfl ⟨⟨0,.data⟩,by simp,rfl,rfl⟩ (by decide));exact Or.inl ⟨.slice (some ⟨lp,lq,none⟩) b.lines.length lc,X,by simp[execOp,go_sem,e95,zc],zR,rfl⟩
  |2,ho=>
   injection ho with ho;subst ho
   have e8:a.tmps[8]?.getD undef=.int .i64 (n:Int):=(RY.af a 8).trans ((hk 8 (by kernel_rfl)).trans rfl);exact Or.inl ⟨.int .i64 (n:Int),X,by simp[execOp,go_sem,e8],zR,rfl⟩
  |3,ho=>
   injection ho with ho;subst ho
   refine Or.inl ⟨.slice (some ⟨X.heap.size,0,none⟩) 3 3,X.alloc (.cells #[.string {data:=#[]},.string {data:=#[105,109,97,103,101]},.string {data:=#[122,111,110,101]}] 9),by simp[execOp,go_sem],ae zR _,X.heap.size,rfl,hR.own.lt,by simp,fun j hj=> ?_⟩;exact gp mZ X j hj
  |4,ho=>
   injection ho with ho;subst ho
   have e0:a.tmps[0]?.getD undef=.pointer (some ⟨R,0,none⟩):=(RY.af a 0).trans ((hk 0 (by kernel_rfl)).trans rfl);exact Or.inl ⟨.pointer (some ⟨R,0,none⟩),X,by simp[execOp,go_sem,e0],zR,rfl⟩
  |5,ho=>
   injection ho with ho;subst ho
   have e99:a.tmps[99]?.getD undef=_:=(RY.af a 99).trans (hd 4 _ 99 rfl rfl ⟨⟨4,.data⟩,by simp,rfl,rfl⟩ (by decide));refine Or.inr ⟨12,#[.pointer (some ⟨R,0,none⟩),.int .i64 3],by simp[go_sem,e99],(bb R v len pp 3 X hR (by have:=HR.out.2;omega) (by omega)).mono ?_⟩;rintro e W' ⟨⟨r,rfl,hr⟩,hF,Ia⟩;obtain⟨j,rfl,hj⟩:=hr.nat;exact⟨_,rfl,hF,⟨pp+1,by omega,Ia⟩,j,rfl,by have:=hj (by omega);omega⟩
  |6,ho=>
   injection ho with ho;subst ho
   obtain⟨c,ea,h1,h2,hc⟩:=hd 3 _ 98 rfl rfl ⟨⟨3,.data⟩,by simp,rfl,rfl⟩ (by decide);obtain⟨j,eb,hj⟩:=hd 5 _ 100 rfl rfl ⟨⟨5,.data⟩,by simp,rfl,rfl⟩ (by decide);have f1:=(RY.af a 98).trans ea;have f2:=(RY.af a 100).trans eb;have BB:(j:Int)<3:=by omega
   exact Or.inl ⟨.pointer (some ⟨c,j,none⟩),X,by simp[execOp,go_sem,f1,f2,BB],zR,c,j,rfl,h1,h2,mZ.getD j ⟨#[]⟩,by simp[List.getD,List.getElem?_eq_getElem (l:=mZ) (show j<mZ.length from hj)],hc j hj⟩
  |7,ho=>
   injection ho with ho;subst ho
   obtain⟨c,j,ea,h1,h2,x,hx,hc⟩:=hd 6 _ 101 rfl rfl ⟨⟨6,.data⟩,by simp,rfl,rfl⟩ (by decide);have f1:=(RY.af a 101).trans ea;exact Or.inl ⟨.string x,X,by simp[execOp,go_sem,f1,hc],zR,x,hx,rfl⟩
  |8,ho=>
   injection ho with ho;subst ho
   have e96:a.tmps[96]?.getD undef=_:=(RY.af a 96).trans (hd 1 _ 96 rfl rfl ⟨⟨1,.data⟩,by simp,rfl,rfl⟩ (by decide));have e97:a.tmps[97]?.getD undef=_:=(RY.af a 97).trans (hd 2 _ 97 rfl rfl ⟨⟨2,.data⟩,by simp,rfl,rfl⟩ (by decide));exact Or.inl ⟨.pointer (some ⟨lp,lq+n*2,none⟩),X,by simp[execOp,go_sem,e96,e97,wO,Je],zR,rfl⟩
  |9,ho=>
   injection ho with ho;subst ho
   have e103:a.tmps[103]?.getD undef=_:=(RY.af a 103).trans (hd 8 _ 103 rfl rfl ⟨⟨8,.data⟩,by simp,rfl,rfl⟩ (by decide));exact Or.inl ⟨.pointer (some ⟨lp,lq+n*2,none⟩),X,by simp[execOp,go_sem,e103],zR,rfl⟩
  |n+10,ho=>omega
 ·intro a X vals pp hX hR wT hk hV hd;obtain⟨x,hx,e102⟩:=hV 7 (by decide);have f102:=(RY.af a 102).trans ((hd 7 _ 102 rfl rfl ⟨⟨7,.data⟩,by simp,rfl,rfl⟩ (by decide)).trans e102);have f104:=(RY.af a 104).trans ((hd 9 _ 104 rfl rfl ⟨⟨9,.data⟩,by simp,rfl,rfl⟩ (by decide)).trans (hV 9 (by decide)));have MV:=HX.out.step hX HR.out.1 hR (by have:=HP.out.ord;omega);obtain⟨Gk,rk,nk,hG,hh⟩:=MV.hole;obtain⟨p2,o2,u,m,aw,cw,F2,e2,ou,ho,EY,hg,_,_,_⟩:=ek rk HNL.out;injection e2 with e2
  injection e2 with e3 e4 _
  subst e3;subst e4;have JN:=ho.frozen;have hz:=ho.lt;have oy:=aE hg 0 _ rfl;refine⟨X.setCell ⟨lp,lq+n*2,none⟩ (.string x), ?_,x,X,pp,Ex x hx,hX,hR,by omega,rfl⟩;simp at oy;simp[execOp,go_sem,f104,f102,oy,JN]
 ·rintro vals vs X Bh bg;simp only[RY.aC,Act.put,List.setIfInBounds_toArray,List.set_cons_zero,List.set_cons_succ];generalize vs 95=s95,vs 96=s96,vs 97=s97,vs 98=s98,vs 99=s99,vs 100=s100,vs 101=s101,vs 102=s102,vs 103=s103,vs 104=s104;clear bg;obtain⟨t,X1,q',ht,oF,mL,yC,fA⟩:=Bh;subst fA;obtain⟨W3,fA⟩:∃ W3,W3=X1.setCell ⟨lp,lq+n*2,none⟩ (.string t):=⟨_,rfl⟩
  rw[← fA];have Lr:=HX.out.step oF HR.out.1 mL (by have:=HP.out.ord;omega);obtain⟨Gk,rk,nk,hG,hh⟩:=Lr.hole;obtain⟨p2,o2,u,m,aw,cw,F2,e2,ou,ho,EY,hg,_,_,_⟩:=ek rk HNL.out;injection e2 with e2
  injection e2 with e3 e4 _
  subst e3;subst e4;have qs:=HNL.out;have oy:=aE hg 0 _ rfl;rw[Nat.add_zero]at oy;have hb:=hG lp ou;obtain⟨s',h9,N6,Of⟩:=DR (HP.out.step oF) Lr HN.out.1 HN.out.2.2 HB.out (B:=lp) (O:=lq+n*2) ⟨hb.1,hb.2.2,hb.2.1⟩ ho (by omega) oy ht W3 fA;have jH:=uh h9;have jK:=uh N6;have jF:=uh Of;have hm:Marks (fun b=>b=lp) X1 W3:=by rw[fA];exact Marks.sc (S:=fun b=>b=lp) X1 rfl _ _
  have iG:Hid (Rd W3 R v len q'∧q'≤p+1000000):=⟨mL.mks hm (fun c e=>by have:c=lp:=e;have:=HP.out.ord;omega),by have:=HR.out.2;omega⟩
  clear h9 N6 Of hm hb fA Lr rk nk hG hh oF mL yC ht ho oy;go_wp2;exact dL W0 _ R v len p _ B0 Q BX lo xp xo xc k s.length _ _ _ _ _ lc jH jK jF iG _ _ _ _ _ _ _ _ _ _ _ _ _ _ _ _ _ _ _ _ _ _ _ _ _ _ _ _ _ _ _ _ _ _ _ _ _ _ _ _ _ _ _ _ _ _ _ _ _ _ _ _ _ _ _ _ _ _ _ _ _ _ _ _ _ _ _ _ _ _ _ _ _ _ _ _ _ _ _ _ _ _ _ _ _ _ _ _ _ _ _ _ _ _ _ _ _ _ _ _ _ _ _ _ _ _ _ _ _ _ _ _ _ _ _ _ _ _ _ _ _ _ _ _ _ _ _ _ _ _ _ _ _ _ _ _ _ _ _ _ _ _ _ _ _ _ _ _ _ _ _ _ _ _ _ _ _ _ _ _ _ _ _ _ _ _ _ _ _ _ _ _ _ _ _ _ _ _ _ _ _ _ _ _ _ _ _ _ _ _ _ _ _ _
theorem GL:g6 2:=by
 intro W0 W b R v len p q B0 Q BX lo xp xo xc k n s la lc HP HX HN HB HR K hK u1 u2 u3 u9 u10 u11 u12 u13 u14 u15 u16 u17 u18 u19 u20 u21 u22 u23 u24 u25 u26 u27 u28 u29 u30 u31 u32 u33 u34 u35 u36 u37 u39 u40 u41 u42 u43 u44 u45 u46 u47 u48 u49 u50 u51 u52 u53 u54 u55 u56 u57 u58 u59 u60 u61 u62 u63 u64 u65 u66 u67 u68 u69 u70 u71 u72 u73 u74 u75 u76 u77 u78 u79 u80 u81 u82 u83 u84 u85 u86 u87 u88 u89 u90 u91 u92 u93 u94 u95 u96 u97 u98 u99 u100 u101 u102 u103 u104 u105 u106 u107 u108 u109 u110 u111 u112 u113 u114 u115 u116 u117 u118 u119 u120 u121 u122 u123 u124 u125 u126 u127 u128 u129 u130 u131 u132 u133 u134 u135 u136 u137 u138 u139 u140 u141 u142 u143 u144 u145 u146 u147 u148 u149 u150 u151 u152 u153 u154 u155 u156 u157 u158 u159 u160 u161 u162 u163 u164 u165 u166 u167 u168 u169 u170 u171 u172 u173 u174 u175 u176 u177 u178 u179 u180 u181 u182 u183 u184 u185 u186 u187 u188 u189 u190 u191 u192 u193 u194 u195 u196 u197 u198;have ow:=uh (HB.out.one (HX.out.mem HN.out.1));have HO:=uh HP.out.ord;obtain⟨F,r,nd,hF⟩:=HX.out.rep;obtain⟨Gk,rk,nk,hG,hh⟩:=HX.out.hole;obtain⟨G0,MF⟩:=lx r (by have:=HN.out.1;omega);have Ou:∀ p G,F=p::G→p=xp∧p ∉ G:=fun p G e=>by
  rw[MF]at e nd;injection e with e1 e2
  subst e1;subst e2;exact⟨rfl,(List.nodup_cons.1 nd).1⟩
 obtain⟨W1,ia⟩:∃ W1,W1=W.alloc (.cells #[.string b.kind,.string b.name,.slice la b.lines.length lc] 41):=⟨_,rfl⟩
 have bJ:Bel W W1:=by rw[ia];exact ae zR _
 have FI:Rep W1 false ak (Gk++[]) (blD b) [.string b.kind,.string b.name,.slice la b.lines.length lc]:=bG b.kind b.name (rk.later bJ);obtain⟨v',W2,F4,row,dM,rep,nd4,jL,fw,ep,_⟩:=lC (P:=Tryz.prog) 23 23 41 3 56 _ Tryz.cn Tryz.i9 rfl (by decide) ak rfl W1 (r.later bJ) (fun p G e=>(Ou p G e).2) (by have:=HB.out.len;omega) (F':=Gk++[]) (d:=blD b) (c':=[.string b.kind,.string b.name,.slice la b.lines.length lc]) ⟨W.heap.size,0,none⟩ FI (fun p G e hb=>by rw[List.append_nil]at hb;exact(hG _ hb).2.1 (Ou p G e).1) (by rw[ia];exact pS W #[.string b.kind,.string b.name,.slice la b.lines.length lc] 41);obtain⟨wx,wc,Mk⟩:=rep.raw.bm;subst Mk;have zD:∀ c,row=some c→c=xp:=fun c e=>by obtain⟨G,hG⟩:=ep c e;exact(Ou c G hG).1
 have gD:=HX.out.lt;have ho:=HO.out;have hU:=uh ((HP.out.later bJ).grow fw (fun c e=>by have:=zD c e;omega));have gW:Hid (Rd W2 R v len q):=(HR.out.1.later bJ).grown fw (fun c e=>by have:=zD c e;omega);have lP:Hid (Rep W2 false bF Gk [bT b.lines] [.slice la b.lines.length lc]):=(rk.later bJ).grown fw (fun c hc e=>by have:=zD c e;exact(hG c hc).2.1 this);have Fw:Hid (∀ c∈F4,lo≤c∧c≠Q∧c≠BX):=fun c hc=>by
  rcases jL c hc with e|e|e
  ·have:=hF c e;omega
  ·rw[List.append_nil]at e;have:=hG c e;omega
  ·have:=bJ.size;rw[ia]at e;simp at e;omega
 rw[ia]at dM;have K0:Hid (Rep W2 false bu F4 [bD (s++[b])] [.slice wx (s++[b]).length wc]∧∀ p G,F4=p::G→p ∉ G∧p ∉ Gk):=by
  refine⟨?_,fun p G e=>⟨(nd4 p G e).1,fun hk=> ?_⟩⟩;rotate_left
  ·rcases(nd4 p G e).2 with⟨G',e2⟩|e2
   ·exact(hG p hk).2.1 (Ou p G' e2).1
   ·have:=hG p hk;have:=bJ.size;omega
  have e1:(s++[b]).length=s.length+1:=by simp
  have e:bD (s++[b])=.row (s.length+1) (s.flatMap blD++blD b):=by unfold bD;rw[List.flatMap_append,List.flatMap_singleton,e1]
  rw[e,e1];exact rep
 have Lk:=uh hG;have oy:=HP.out.box.get 0 _ rfl;have Q2:=HP.out.box.own.lt;have g8:=HP.out.bbx.at_;have eY:=HP.out.bbx.own.lt;have JN:=hU.out.box.own.frozen;have gH:=hU.out.box.own.lt;have hy0:=hU.out.box.get 0 _ rfl;clear rep nd4 jL fw ep zD FI bJ ia hF MF nd r rk nk hG hh Ou gD ho;simp only[sw,sk6,sk5,sk4,sk3,sk2,sk1,sk0,Tryz.f36,Option.getD_some,cr,cB];go_wp2_with (first|(refine wpList_load_mid rfl 41 _ rfl BX 0 rfl [.string b.kind,.string b.name,.slice la b.lines.length lc] _ g8 Tryz.underlying41 rfl (by kernel_rfl) ?_)|(at_builtin;refine Go.Lib.wpList_append_run _ rfl _ _ 23 23 rfl _ _ rfl rfl _ W2 dM ?_))
 clear oy Q2 g8 eY JN gH hy0 dM;obtain⟨W3,fA⟩:∃ W3,W3=W2.setCell ⟨Q,0,none⟩ (.slice wx (s.length+1) wc):=⟨_,rfl⟩
 rw[← fA];have hm:Marks (fun b=>b=Q) W2 W3:=by rw[fA];exact Marks.sc (S:=fun b=>b=Q) W2 rfl _ _
 have P5:=HO.out;have ic:al W3 Q 25 [.slice wx (s.length+1) wc]:=by rw[fA];exact hU.out.box.set 0 _ (by simp)
 have HP3:=hU.out.IP hm ic;have qT:=K0.out.1.bo hm (fun c hc e=>(Fw.out c hc).2.1 e);obtain⟨p9,o9,PA⟩:∃ p o,wx=some ⟨p,o,none⟩:=by
  rcases qT.slice with⟨_,h0,_⟩|⟨p,o,c,u,m,G,hv,_⟩
  ·simp at h0
  ·injection hv with hv _ _;exact⟨p,o,hv⟩
 subst PA;obtain⟨PH,ko,tQ⟩:=uR qT (fun p G e=>(K0.out.2 p G e).1) (fun c hc=>(Fw.out c hc).1) (by simp);have hl4:(s++[b]).length=s.length+1:=by simp
 have tE:k<(s++[b]).length:=by have:=HN.out.1;omega
 obtain⟨G9,iK⟩:=lx qT (by simp);have h9:=Fw.out p9 (by rw[iK];simp);have R2:p9 ∉ Gk:=(K0.out.2 p9 G9 iK).2;have mP:=hm.size;have hrk:=lP.out.bo hm (fun c hc e=>by have:c=Q:=e;have:=Lk.out c hc;omega);have Fc:=PH.put tE b (N:=W3.heap.size) ⟨Gk,hrk,fun c hc=>Or.inl ⟨⟨(Lk.out c hc).1,fun e=>R2 (e ▸ hc)⟩,hrk.lt c hc⟩⟩ (qT.lt p9 (by rw[iK];simp));have jH:=uh HP3;have jK:Hid (dQ (W3.setCells p9 (o9+k*3) [.string b.kind,.string b.name,.slice la b.lines.length lc]) p9 o9 lo ((s++[b]).set k b)∧Sw ((s++[b]).set k b)):=by
  refine⟨Fc,⟨by rw[List.length_set];have:=HB.out.len;omega, ?_⟩⟩;have h1:=oi (s++[b]) k b;have h2:=uS s b;have h3:=HB.out.wsh;have h4:=ow.out.1;omega
 have jF:Hid (((s++[b]).set k b).length=s.length+1∧(s.length+1≤maxLen∧s.length+1≤wc)∧k<s.length+1∧p9≠Q∧p9≠BX∧lo≤p9∧W3.there p9 (o9+k*3) 3):=⟨by rw[List.length_set];exact hl4,by omega,by omega,h9.2.1,h9.2.2,h9.1,PH.there tE⟩
 have iG:Hid (Rd W3 R v len q∧q≤p+1000000):=⟨gW.out.mks hm (fun c e=>by have:c=Q:=e;omega),by have:=HR.out.2;omega⟩
 exact dL W0 _ R v len p _ B0 Q BX lo p9 o9 wc k (s.length+1) _ _ _ la _ lc jH jK jF iG _ _ _ _ _ _ _ _ _ _ _ _ _ _ _ _ _ _ _ _ _ _ _ _ _ _ _ _ _ _ _ _ _ _ _ _ _ _ _ _ _ _ _ _ _ _ _ _ _ _ _ _ _ _ _ _ _ _ _ _ _ _ _ _ _ _ _ _ _ _ _ _ _ _ _ _ _ _ _ _ _ _ _ _ _ _ _ _ _ _ _ _ _ _ _ _ _ _ _ _ _ _ _ _ _ _ _ _ _ _ _ _ _ _ _ _ _ _ _ _ _ _ _ _ _ _ _ _ _ _ _ _ _ _ _ _ _ _ _ _ _ _ _ _ _ _ _ _ _ _ _ _ _ _ _ _ _ _ _ _ _ _ _ _ _ _ _ _ _ _ _ _ _ _ _ _ _ _ _ _ _ _ _ _ _ _ _ _ _ _ _ _ _ _
theorem GV:g6 0:=by
 intro W0 W b R v len p q B0 Q BX lo xp xo xc k n s la lc HP HX HN HB HR K hK u1 u2 u3 u9 u10 u11 u12 u13 u14 u15 u16 u17 u18 u19 u20 u21 u22 u23 u24 u25 u26 u27 u28 u29 u30 u31 u32 u33 u34 u35 u36 u37 u39 u40 u41 u42 u43 u44 u45 u46 u47 u48 u49 u50 u51 u52 u53 u54 u55 u56 u57 u58 u59 u60 u61 u62 u63 u64 u65 u66 u67 u68 u69 u70 u71 u72 u73 u74 u75 u76 u77 u78 u79 u80 u81 u82 u83 u84 u85 u86 u87 u88 u89 u90 u91 u92 u93 u94 u95 u96 u97 u98 u99 u100 u101 u102 u103 u104 u105 u106 u107 u108 u109 u110 u111 u112 u113 u114 u115 u116 u117 u118 u119 u120 u121 u122 u123 u124 u125 u126 u127 u128 u129 u130 u131 u132 u133 u134 u135 u136 u137 u138 u139 u140 u141 u142 u143 u144 u145 u146 u147 u148 u149 u150 u151 u152 u153 u154 u155 u156 u157 u158 u159 u160 u161 u162 u163 u164 u165 u166 u167 u168 u169 u170 u171 u172 u173 u174 u175 u176 u177 u178 u179 u180 u181 u182 u183 u184 u185 u186 u187 u188 u189 u190 u191 u192 u193 u194 u195 u196 u197 u198;have Bp:=HB.out.one (HX.out.mem HN.out.1);have ow:=uh Bp;have yh:Hid (R<lo∧lo≤Q∧Q<BX):=by have:=HP.out.ord;exact⟨by omega,by omega,by omega⟩
 clear Bp;obtain⟨W1,ia⟩:∃ W1,W1=W.alloc (.cells #[.string {data:=#[]},.string {data:=#[110,111,110,101]},.string {data:=#[116,101,97,109]}] 9):=⟨_,rfl⟩
 obtain⟨LB,Iz⟩:∃ LB,LB=W.heap.size:=⟨_,rfl⟩
 have bJ:Bel W W1:=by rw[ia];exact ae zR _
 have tw:Hid (al W1 LB 9 [.string {data:=#[]},.string {data:=#[110,111,110,101]},.string {data:=#[116,101,97,109]}]):=by show al _ _ _ _;rw[ia,Iz];exact al.new _ _ _ _ rfl
 have RR:Hid (R<LB):=by show _<_;rw[Iz];have:=HP.out.ord;have:=HP.out.bbx.own.lt;omega
 have kY:=uh (HP.out.later bJ);have mO:=uh (HX.out.later bJ);have iL:=uh (HR.out.1.later bJ);have nB:=uh (bb R v len q 3 W1 iL.out (by have:=HR.out.2;omega) (by omega));simp only[sw,sk6,sk5,sk4,sk3,sk2,sk1,sk0,Tryz.f36,Option.getD_some,cr,cB];go_wp2_with fail
 rw[← ia,← Iz];clear ia Iz bJ;refine nB.out.mono ?_;rintro e W2 ⟨⟨rm,rfl,iJ⟩,fk,eR⟩;obtain⟨r,rfl,hr⟩:=iJ.nat;have qT:r=0∨r=1∨r=2:=by have:=hr (by omega);omega
 have hU:=uh (kY.out.step fk);have fL:=uh (mO.out.step fk iL.out eR yh.out.1);have lP:=uh (tw.out.fr fk RR.out);have gW:=uh eR;clear iJ hr fk eR nB kY mO tw iL HP HX;have cj:Hid (∀ t:ByteArray,t.size≤10→∀ W3,W3=W2.setCell ⟨BX,0,none⟩ (.string t)→SP W0 W3 R B0 Q BX lo (.slice (some ⟨xp,xo,none⟩) s.length xc) t b.name (.slice la b.lines.length lc)∧(dQ (W3.setCells xp (xo+k*3) [.string t,.string b.name,.slice la b.lines.length lc]) xp xo lo (s.set k ⟨t,b.name,b.lines⟩)∧Sw (s.set k ⟨t,b.name,b.lines⟩))∧((s.set k ⟨t,b.name,b.lines⟩).length=s.length∧(s.length≤maxLen∧s.length≤xc)∧k<s.length∧xp≠Q∧xp≠BX∧lo≤xp∧W3.there xp (xo+k*3) 3)∧(Rd W3 R v len (q+1)∧q+1≤p+1000000)):=fun t ht W3 fA=>by
  have hm:Marks (fun b=>b=BX) W2 W3:=by rw[fA];exact Marks.sc (S:=fun b=>b=BX) W2 rfl _ _
  have mG:=fL.out.bo hm (fun c e=>by have:c=BX:=e;have:=yh.out;omega);have hl:=mG.lt;have ep:=mG.row HN.out.1;have hz:Pl.wbl ⟨t,b.name,b.lines⟩≤300000:=by
   have h1:=ow.out.1;have h2:Pl.wbl b=b.kind.size+b.name.size+(b.lines.map fun x=>Pl.wln x+1).sum:=rfl;show t.size+b.name.size+(b.lines.map fun x=>Pl.wln x+1).sum≤300000;omega
  refine⟨hU.out.Gm hm (by rw[fA];exact hU.out.bbx.set 0 (.string t) (by simp)),⟨?_,HB.out.set k _ hz⟩,⟨by simp,HN.out.2.2,HN.out.1,by omega,by omega,hl.1,ep.there HN.out.1⟩,gW.out.mks hm (fun c e=>by have:c=BX:=e;have:=yh.out;omega),by have:=HR.out.2;omega⟩;exact ep.put HN.out.1 ⟨t,b.name,b.lines⟩ (mG.lines zE) (by omega)
 have yfz:=hU.out.bbx.own.frozen;have yl:=hU.out.bbx.own.lt;have y0:=hU.out.bbx.get 0 _ rfl;have zl:=lP.out.own.lt;rcases qT with rfl|rfl|rfl
 ·have z0:=lP.out.get 0 _ rfl;have HE:=cj.out ({data:=#[]}:ByteArray) (by decide) _ rfl;go_wp2;obtain⟨W3,fA⟩:∃ W3,W3=W2.setCell ⟨BX,0,none⟩ (.string ({data:=#[]}:ByteArray)):=⟨_,rfl⟩
  rw[← fA]at HE ⊢;have jH:=uh HE.1;have jK:=uh HE.2.1;have jF:=uh HE.2.2.1;have iG:=uh HE.2.2.2;exact dL W0 _ R v len p _ B0 Q BX lo xp xo xc k s.length _ _ _ la _ lc jH jK jF iG _ _ _ _ _ _ _ _ _ _ _ _ _ _ _ _ _ _ _ _ _ _ _ _ _ _ _ _ _ _ _ _ _ _ _ _ _ _ _ _ _ _ _ _ _ _ _ _ _ _ _ _ _ _ _ _ _ _ _ _ _ _ _ _ _ _ _ _ _ _ _ _ _ _ _ _ _ _ _ _ _ _ _ _ _ _ _ _ _ _ _ _ _ _ _ _ _ _ _ _ _ _ _ _ _ _ _ _ _ _ _ _ _ _ _ _ _ _ _ _ _ _ _ _ _ _ _ _ _ _ _ _ _ _ _ _ _ _ _ _ _ _ _ _ _ _ _ _ _ _ _ _ _ _ _ _ _ _ _ _ _ _ _ _ _ _ _ _ _ _ _ _ _ _ _ _ _ _ _ _ _ _ _ _ _ _ _ _ _ _ _ _ _ _
 ·have z0:=lP.out.get 1 _ rfl;have HE:=cj.out ({data:=#[110,111,110,101]}:ByteArray) (by decide) _ rfl;go_wp2;obtain⟨W3,fA⟩:∃ W3,W3=W2.setCell ⟨BX,0,none⟩ (.string ({data:=#[110,111,110,101]}:ByteArray)):=⟨_,rfl⟩
  rw[← fA]at HE ⊢;have jH:=uh HE.1;have jK:=uh HE.2.1;have jF:=uh HE.2.2.1;have iG:=uh HE.2.2.2;exact dL W0 _ R v len p _ B0 Q BX lo xp xo xc k s.length _ _ _ la _ lc jH jK jF iG _ _ _ _ _ _ _ _ _ _ _ _ _ _ _ _ _ _ _ _ _ _ _ _ _ _ _ _ _ _ _ _ _ _ _ _ _ _ _ _ _ _ _ _ _ _ _ _ _ _ _ _ _ _ _ _ _ _ _ _ _ _ _ _ _ _ _ _ _ _ _ _ _ _ _ _ _ _ _ _ _ _ _ _ _ _ _ _ _ _ _ _ _ _ _ _ _ _ _ _ _ _ _ _ _ _ _ _ _ _ _ _ _ _ _ _ _ _ _ _ _ _ _ _ _ _ _ _ _ _ _ _ _ _ _ _ _ _ _ _ _ _ _ _ _ _ _ _ _ _ _ _ _ _ _ _ _ _ _ _ _ _ _ _ _ _ _ _ _ _ _ _ _ _ _ _ _ _ _ _ _ _ _ _ _ _ _ _ _ _ _ _ _ _
 ·have z0:=lP.out.get 2 _ rfl;have HE:=cj.out ({data:=#[116,101,97,109]}:ByteArray) (by decide) _ rfl;go_wp2;obtain⟨W3,fA⟩:∃ W3,W3=W2.setCell ⟨BX,0,none⟩ (.string ({data:=#[116,101,97,109]}:ByteArray)):=⟨_,rfl⟩
  rw[← fA]at HE ⊢;have jH:=uh HE.1;have jK:=uh HE.2.1;have jF:=uh HE.2.2.1;have iG:=uh HE.2.2.2;exact dL W0 _ R v len p _ B0 Q BX lo xp xo xc k s.length _ _ _ la _ lc jH jK jF iG _ _ _ _ _ _ _ _ _ _ _ _ _ _ _ _ _ _ _ _ _ _ _ _ _ _ _ _ _ _ _ _ _ _ _ _ _ _ _ _ _ _ _ _ _ _ _ _ _ _ _ _ _ _ _ _ _ _ _ _ _ _ _ _ _ _ _ _ _ _ _ _ _ _ _ _ _ _ _ _ _ _ _ _ _ _ _ _ _ _ _ _ _ _ _ _ _ _ _ _ _ _ _ _ _ _ _ _ _ _ _ _ _ _ _ _ _ _ _ _ _ _ _ _ _ _ _ _ _ _ _ _ _ _ _ _ _ _ _ _ _ _ _ _ _ _ _ _ _ _ _ _ _ _ _ _ _ _ _ _ _ _ _ _ _ _ _ _ _ _ _ _ _ _ _ _ _ _ _ _ _ _ _ _ _ _ _ _ _ _ _ _ _ _
theorem Gn:g6 1:=by
 intro W0 W b R v len p q B0 Q BX lo xp xo xc k n s la lc HP HX HN HB HR K hK u1 u2 u3 u9 u10 u11 u12 u13 u14 u15 u16 u17 u18 u19 u20 u21 u22 u23 u24 u25 u26 u27 u28 u29 u30 u31 u32 u33 u34 u35 u36 u37 u39 u40 u41 u42 u43 u44 u45 u46 u47 u48 u49 u50 u51 u52 u53 u54 u55 u56 u57 u58 u59 u60 u61 u62 u63 u64 u65 u66 u67 u68 u69 u70 u71 u72 u73 u74 u75 u76 u77 u78 u79 u80 u81 u82 u83 u84 u85 u86 u87 u88 u89 u90 u91 u92 u93 u94 u95 u96 u97 u98 u99 u100 u101 u102 u103 u104 u105 u106 u107 u108 u109 u110 u111 u112 u113 u114 u115 u116 u117 u118 u119 u120 u121 u122 u123 u124 u125 u126 u127 u128 u129 u130 u131 u132 u133 u134 u135 u136 u137 u138 u139 u140 u141 u142 u143 u144 u145 u146 u147 u148 u149 u150 u151 u152 u153 u154 u155 u156 u157 u158 u159 u160 u161 u162 u163 u164 u165 u166 u167 u168 u169 u170 u171 u172 u173 u174 u175 u176 u177 u178 u179 u180 u181 u182 u183 u184 u185 u186 u187 u188 u189 u190 u191 u192 u193 u194 u195 u196 u197 u198;have Bp:=HB.out.one (HX.out.mem HN.out.1);have ow:=uh Bp;have yh:Hid (R<lo∧lo≤Q∧Q<BX):=by have:=HP.out.ord;exact⟨by omega,by omega,by omega⟩
 clear Bp;obtain⟨W1,ia⟩:∃ W1,W1=W.alloc (.cells #[.string {data:=#[]},.string {data:=#[65]},.string {data:=#[122,122]}] 9):=⟨_,rfl⟩
 obtain⟨LB,Iz⟩:∃ LB,LB=W.heap.size:=⟨_,rfl⟩
 have bJ:Bel W W1:=by rw[ia];exact ae zR _
 have tw:Hid (al W1 LB 9 [.string {data:=#[]},.string {data:=#[65]},.string {data:=#[122,122]}]):=by show al _ _ _ _;rw[ia,Iz];exact al.new _ _ _ _ rfl
 have RR:Hid (R<LB):=by show _<_;rw[Iz];have:=HP.out.ord;have:=HP.out.bbx.own.lt;omega
 have kY:=uh (HP.out.later bJ);have mO:=uh (HX.out.later bJ);have iL:=uh (HR.out.1.later bJ);have nB:=uh (bb R v len q 3 W1 iL.out (by have:=HR.out.2;omega) (by omega));simp only[sw,sk6,sk5,sk4,sk3,sk2,sk1,sk0,Tryz.f36,Option.getD_some,cr,cB];go_wp2_with fail
 rw[← ia,← Iz];clear ia Iz bJ;refine nB.out.mono ?_;rintro e W2 ⟨⟨rm,rfl,iJ⟩,fk,eR⟩;obtain⟨r,rfl,hr⟩:=iJ.nat;have qT:r=0∨r=1∨r=2:=by have:=hr (by omega);omega
 have hU:=uh (kY.out.step fk);have fL:=uh (mO.out.step fk iL.out eR yh.out.1);have lP:=uh (tw.out.fr fk RR.out);have gW:=uh eR;clear iJ hr fk eR nB kY mO tw iL HP HX;have cj:Hid (∀ t:ByteArray,t.size≤10→∀ W3,W3=W2.setCell ⟨BX,1,none⟩ (.string t)→SP W0 W3 R B0 Q BX lo (.slice (some ⟨xp,xo,none⟩) s.length xc) b.kind t (.slice la b.lines.length lc)∧(dQ (W3.setCells xp (xo+k*3) [.string b.kind,.string t,.slice la b.lines.length lc]) xp xo lo (s.set k ⟨b.kind,t,b.lines⟩)∧Sw (s.set k ⟨b.kind,t,b.lines⟩))∧((s.set k ⟨b.kind,t,b.lines⟩).length=s.length∧(s.length≤maxLen∧s.length≤xc)∧k<s.length∧xp≠Q∧xp≠BX∧lo≤xp∧W3.there xp (xo+k*3) 3)∧(Rd W3 R v len (q+1)∧q+1≤p+1000000)):=fun t ht W3 fA=>by
  have hm:Marks (fun b=>b=BX) W2 W3:=by rw[fA];exact Marks.sc (S:=fun b=>b=BX) W2 rfl _ _
  have mG:=fL.out.bo hm (fun c e=>by have:c=BX:=e;have:=yh.out;omega);have hl:=mG.lt;have ep:=mG.row HN.out.1;have hz:Pl.wbl ⟨b.kind,t,b.lines⟩≤300000:=by
   have h1:=ow.out.1;have h2:Pl.wbl b=b.kind.size+b.name.size+(b.lines.map fun x=>Pl.wln x+1).sum:=rfl;show b.kind.size+t.size+(b.lines.map fun x=>Pl.wln x+1).sum≤300000;omega
  refine⟨hU.out.Gm hm (by rw[fA];exact hU.out.bbx.set 1 (.string t) (by simp)),⟨?_,HB.out.set k _ hz⟩,⟨by simp,HN.out.2.2,HN.out.1,by omega,by omega,hl.1,ep.there HN.out.1⟩,gW.out.mks hm (fun c e=>by have:c=BX:=e;have:=yh.out;omega),by have:=HR.out.2;omega⟩;exact ep.put HN.out.1 ⟨b.kind,t,b.lines⟩ (mG.lines zE) (by omega)
 have yfz:=hU.out.bbx.own.frozen;have yl:=hU.out.bbx.own.lt;have y0:=hU.out.bbx.get 1 _ rfl;have zl:=lP.out.own.lt;rcases qT with rfl|rfl|rfl
 ·have z0:=lP.out.get 0 _ rfl;have HE:=cj.out ({data:=#[]}:ByteArray) (by decide) _ rfl;go_wp2;obtain⟨W3,fA⟩:∃ W3,W3=W2.setCell ⟨BX,1,none⟩ (.string ({data:=#[]}:ByteArray)):=⟨_,rfl⟩
  rw[← fA]at HE ⊢;have jH:=uh HE.1;have jK:=uh HE.2.1;have jF:=uh HE.2.2.1;have iG:=uh HE.2.2.2;exact dL W0 _ R v len p _ B0 Q BX lo xp xo xc k s.length _ _ _ la _ lc jH jK jF iG _ _ _ _ _ _ _ _ _ _ _ _ _ _ _ _ _ _ _ _ _ _ _ _ _ _ _ _ _ _ _ _ _ _ _ _ _ _ _ _ _ _ _ _ _ _ _ _ _ _ _ _ _ _ _ _ _ _ _ _ _ _ _ _ _ _ _ _ _ _ _ _ _ _ _ _ _ _ _ _ _ _ _ _ _ _ _ _ _ _ _ _ _ _ _ _ _ _ _ _ _ _ _ _ _ _ _ _ _ _ _ _ _ _ _ _ _ _ _ _ _ _ _ _ _ _ _ _ _ _ _ _ _ _ _ _ _ _ _ _ _ _ _ _ _ _ _ _ _ _ _ _ _ _ _ _ _ _ _ _ _ _ _ _ _ _ _ _ _ _ _ _ _ _ _ _ _ _ _ _ _ _ _ _ _ _ _ _ _ _ _ _ _ _
 ·have z0:=lP.out.get 1 _ rfl;have HE:=cj.out ({data:=#[65]}:ByteArray) (by decide) _ rfl;go_wp2;obtain⟨W3,fA⟩:∃ W3,W3=W2.setCell ⟨BX,1,none⟩ (.string ({data:=#[65]}:ByteArray)):=⟨_,rfl⟩
  rw[← fA]at HE ⊢;have jH:=uh HE.1;have jK:=uh HE.2.1;have jF:=uh HE.2.2.1;have iG:=uh HE.2.2.2;exact dL W0 _ R v len p _ B0 Q BX lo xp xo xc k s.length _ _ _ la _ lc jH jK jF iG _ _ _ _ _ _ _ _ _ _ _ _ _ _ _ _ _ _ _ _ _ _ _ _ _ _ _ _ _ _ _ _ _ _ _ _ _ _ _ _ _ _ _ _ _ _ _ _ _ _ _ _ _ _ _ _ _ _ _ _ _ _ _ _ _ _ _ _ _ _ _ _ _ _ _ _ _ _ _ _ _ _ _ _ _ _ _ _ _ _ _ _ _ _ _ _ _ _ _ _ _ _ _ _ _ _ _ _ _ _ _ _ _ _ _ _ _ _ _ _ _ _ _ _ _ _ _ _ _ _ _ _ _ _ _ _ _ _ _ _ _ _ _ _ _ _ _ _ _ _ _ _ _ _ _ _ _ _ _ _ _ _ _ _ _ _ _ _ _ _ _ _ _ _ _ _ _ _ _ _ _ _ _ _ _ _ _ _ _ _ _ _ _ _
 ·have z0:=lP.out.get 2 _ rfl;have HE:=cj.out ({data:=#[122,122]}:ByteArray) (by decide) _ rfl;go_wp2;obtain⟨W3,fA⟩:∃ W3,W3=W2.setCell ⟨BX,1,none⟩ (.string ({data:=#[122,122]}:ByteArray)):=⟨_,rfl⟩
  rw[← fA]at HE ⊢;have jH:=uh HE.1;have jK:=uh HE.2.1;have jF:=uh HE.2.2.1;have iG:=uh HE.2.2.2;exact dL W0 _ R v len p _ B0 Q BX lo xp xo xc k s.length _ _ _ la _ lc jH jK jF iG _ _ _ _ _ _ _ _ _ _ _ _ _ _ _ _ _ _ _ _ _ _ _ _ _ _ _ _ _ _ _ _ _ _ _ _ _ _ _ _ _ _ _ _ _ _ _ _ _ _ _ _ _ _ _ _ _ _ _ _ _ _ _ _ _ _ _ _ _ _ _ _ _ _ _ _ _ _ _ _ _ _ _ _ _ _ _ _ _ _ _ _ _ _ _ _ _ _ _ _ _ _ _ _ _ _ _ _ _ _ _ _ _ _ _ _ _ _ _ _ _ _ _ _ _ _ _ _ _ _ _ _ _ _ _ _ _ _ _ _ _ _ _ _ _ _ _ _ _ _ _ _ _ _ _ _ _ _ _ _ _ _ _ _ _ _ _ _ _ _ _ _ _ _ _ _ _ _ _ _ _ _ _ _ _ _ _ _ _ _ _ _ _ _
theorem G6:sK Tryz.prog 36:=Ge fun j hj=>by
 have:j=0∨j=1∨j=2∨j=3∨j=4∨j=5∨j=6∨j=7∨j=8:=by omega
 rcases this with rfl|rfl|rfl|rfl|rfl|rfl|rfl|rfl|rfl
 ·exact GV
 ·exact Gn
 ·exact GL
 ·exact FY
 ·exact G8
 ·exact GG
 ·exact GX
 ·exact Gg
 ·exact Ha
end Go.Proofs.YtopjjknojnfhmaaGreatDoor
