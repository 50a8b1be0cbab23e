import Derived.Test.YtmgibmmpopoboaaEEa
namespace Go.Proofs.Ytmgibmmpopoboaa
open Go.RowKit Go.Deep
theorem zr {W:World} {x y:Pl.Ln} {ls:List Pl.Ln} {F:List Nat} {la:Option Addr} {lc:Nat} (h:Rep W false aJ F [aU (x::y::ls)] [.slice la (x::y::ls).length lc]) (nd:F.Nodup):∃ p o u m a0 c0 a1 c1,la=some ⟨p,o,none⟩∧p∈F∧aL W p u m∧o+(x::y::ls).length*2≤m∧W.rangeAt p o [.string x.key,.slice a0 x.ws.length c0]∧W.rangeAt p (o+2) [.string y.key,.slice a1 y.ws.length c1]∧
  ∀ W1 W2 W3,Bel W W1→W2=W1.setCells p o [.string y.key,.slice a1 y.ws.length c1]→W3=W2.setCells p (o+2) [.string x.key,.slice a0 x.ws.length c0]→∃ F',Rep W3 false aJ F' [aU (y::x::ls)] [.slice la (x::y::ls).length lc]∧∀ b∈F',b∈F:=by
 rcases h.slice with⟨_,e0,_⟩|⟨p,o,c,u,m,G,hv,hF,hn,ho,hm,_,vs,hr,hR⟩
 ·simp at e0
 ·injection hv with hv _ hc
  subst hv;subst hc;subst hF;have mT:=(List.nodup_cons.1 nd).1;have e:bP (x::y::ls).length au=au++(au++bP ls.length au):=rfl;have e2:(x::y::ls).flatMap lnD=lnD x++(lnD y++ls.flatMap lnD):=by rw[List.flatMap_cons,List.flatMap_cons]
  rw[e,e2]at hR;obtain⟨F0,G1,d0,e1,v0,w1,hG,hd,bd,r0,lg⟩:=Rep.cut _ hR;obtain⟨g1,g2⟩:=List.append_inj hd.symm (by rw[r0.raw.typ.len];rfl);subst g1;subst g2;obtain⟨F1,G2,d1,e3,v1,w2,DL,BH,ML,r1,r2⟩:=Rep.cut _ lg;obtain⟨g3,g4⟩:=List.append_inj BH.symm (by rw[r1.raw.typ.len];rfl);subst g3;subst g4;obtain⟨F0',s0,yg,BY,q0⟩:=dT r0;obtain⟨a0,c0,ea0⟩:=q0.raw.aP;subst ea0;subst BY;obtain⟨F1',s1,oF,jK,q1⟩:=dT r1;obtain⟨a1,c1,ea1⟩:=q1.raw.aP;subst ea1;subst jK;subst ML;subst bd;subst DL;subst hG;have uW:=(dB hr).1;have ji:=(dB (dB hr).2).1;have kh:=(dB (dB hr).2).2;have hlw:w2.length=ls.length*2:=by rw[r2.len,bq];rfl
  have LI:o+(x::y::ls).length*2≤m:=hm;have iN:(x::y::ls).length=ls.length+2:=rfl;refine⟨p,o,u,m,a0,c0,a1,c1,rfl,by simp,ho,LI,uW,ji,fun W1 W2 W3 hb h2 h3=> ?_⟩;have ho1:=ho.ae hb;have m2:Marks (fun b=>b=p) W1 W2:=by rw[h2];exact aN (S:=fun b=>b=p) rfl _ _ _
  have m3:Marks (fun b=>b=p) W2 W3:=by rw[h3];exact aN (S:=fun b=>b=p) rfl _ _ _
  have Kw:=m2.own _ _ _ ho1;have Mt:=m3.own _ _ _ Kw;have k1:W2.rangeAt p o [.string y.key,.slice a1 y.ws.length c1]:=by rw[h2];exact World.rangeAt_setCells_same _ _ _ _ (aR ho1 _ _ (by simp only[List.length_cons,List.length_nil];omega))
  have k2:W3.rangeAt p o [.string y.key,.slice a1 y.ws.length c1]:=by rw[h3];exact World.rangeAt_setCells_apart k1 _ _ _ (Or.inr (Or.inl (by simp)))
  have k3:W3.rangeAt p (o+2) [.string x.key,.slice a0 x.ws.length c0]:=by rw[h3];exact World.rangeAt_setCells_same _ _ _ _ (aR Kw _ _ (by simp only[List.length_cons,List.length_nil];omega))
  have k4:W3.rangeAt p (o+2+2) w2:=by
   rw[h3];refine World.rangeAt_setCells_apart ?_ _ _ _ (Or.inr (Or.inr (by simp)));rw[h2];refine World.rangeAt_setCells_apart ?_ _ _ _ (Or.inr (Or.inr (by simp only[List.length_cons,List.length_nil];omega)));exact aA kh ho.lt hb
  have kp:∀ {ss:List Sh} {FF:List Nat} {ds:List Dt} {cs:List Value},Rep W false ss FF ds cs→(∀ b∈FF,b∈F0++(F1++G2))→Rep W3 false ss FF ds cs:=fun h hs=>((h.ae hb).aY m2 fun b fE e=>by have e:b=p:=e;subst e;exact mT (hs b fE)).aY m3 fun b fE e=>by have e:b=p:=e;subst e;exact mT (hs b fE)
  have lZ:=(kp r1 (fun b hb=>by simp[hb])).app ((kp r0 (fun b hb=>by simp[hb])).app (kp r2 (fun b hb=>by simp[hb])));refine⟨p::((F1++(F0++G2))++[]), ?_,fun b hb=> ?_⟩
  ·have e5:aU (y::x::ls)=.row (x::y::ls).length (lnD y++(lnD x++ls.flatMap lnD)):=by unfold aU;rw[List.flatMap_cons,List.flatMap_cons];rfl
   rw[e5];exact Rep.row _ au p o _ _ u m _ _ _ Mt hn.2.2 (by simp) ⟨hn.1,hn.2.1⟩ (lz k2 (lz k3 k4)) lZ .nil
  ·rw[List.append_nil]at hb;simp only[List.mem_cons,List.mem_append]at hb ⊢;rcases hb with hb|hb|hb|hb
   ·exact Or.inl hb
   ·exact Or.inr (Or.inr (Or.inl hb))
   ·exact Or.inr (Or.inl hb)
   ·exact Or.inr (Or.inr (Or.inr hb))
set_option maxHeartbeats 40000000
set_option maxRecDepth 8000
def VS6 (BX:Nat) (lp:Nat) (lq:Nat) (b:Pl.Bl) (lc:Nat) (y:Pl.Ln) (a1:Option Addr) (c1:Nat):Nat→Value→World→Prop
 |0,vv,_=>vv=.pointer (some ⟨BX,2,none⟩)
 |1,vv,_=>vv=.slice (some ⟨lp,lq,none⟩) b.lines.length lc
 |2,vv,_=>vv=.pointer (some ⟨BX,2,none⟩)
 |3,vv,_=>vv=.slice (some ⟨lp,lq,none⟩) b.lines.length lc
 |4,vv,_=>vv=.pointer (some ⟨lp,lq+1*2,none⟩)
 |5,vv,_=>vv=.agg #[.string y.key,.slice a1 y.ws.length c1]
 |6,vv,_=>vv=.pointer (some ⟨lp,lq,none⟩)
 |_,_,_=>True
theorem Am (BX:Nat) (lp:Nat) (lq:Nat) (b:Pl.Bl) (lc:Nat) (y:Pl.Ln) (a1:Option Addr) (c1:Nat):∀ jj vv W W',Bel W W'→VS6 BX lp lq b lc y a1 c1 jj vv W→VS6 BX lp lq b lc y a1 c1 jj vv W':=by
 intro jj vv W W' hb h;match jj with
 |0=>exact h
 |1=>exact h
 |2=>exact h
 |3=>exact h
 |4=>exact h
 |5=>exact h
 |6=>exact h
 |n+7=>exact trivial
theorem C1:gH 6:=by
 intro W0 W b R v len p q B0 Q BX lo xp xo xc k n s la lc HP HX HN HB HR K hK u1 u2 u3 u9 u10 u11 u12 u13 u14 u15 u16 u17 u18 u19 u20 u21 u22 u23 u24 u25 u26 u27 u28 u29 u30 u31 u32 u33 u34 u35 u36 u37 u39 u40 u41 u42 u43 u44 u45 u46 u47 u48 u49 u50 u51 u52 u53 u54 u55 u56 u57 u58 u59 u60 u61 u62 u63 u64 u65 u66 u67 u68 u69 u70 u71 u72 u73 u74 u75 u76 u77 u78 u79 u80 u81 u82 u83 u84 u85 u86 u87 u88 u89 u90 u91 u92 u93 u94 u95 u96 u97 u98 u99 u100 u101 u102 u103 u104 u105 u106 u107 u108 u109 u110 u111 u112 u113 u114 u115 u116 u117 u118 u119 u120 u121 u122 u123 u124 u125 u126 u127 u128 u129 u130 u131 u132 u133 u134 u135 u136 u137 u138 u139 u140 u141 u142 u143 u144 u145 u146 u147 u148 u149 u150 u151 u152 u153 u154 u155 u156 u157 u158 u159 u160 u161 u162 u163 u164 u165 u166 u167 u168 u169 u170 u171 u172 u173 u174 u175 u176 u177 u178 u179 u180 u181 u182 u183 u184 u185 u186 u187 u188 u189 u190 u191 u192 u193 u194 u195 u196 u197 u198;by_cases h0:b.lines.length≤1
 ·have BD:¬ (1:Int)<(b.lines.length:Int):=by omega
  have b2:=HP.out.bbx.get 2 _ rfl;have bl:=HP.out.bbx.own.lt;simp only[sw,sk6,sk5,sk4,sk3,sk2,sk1,sk0,Try.f43,Option.getD_some,sfst_seq,ssnd_seq];go_wp2;have jd:=uh (HX.out.none HN.out.1 HB.out);have jk:=uh (HX.out.hn HN.out.1 HN.out.2.2 (s':=s) rfl);have je:=HP;have g9:Hid (Rd W R v len q∧q≤p+1000000):=⟨HR.out.1,by have:=HR.out.2;omega⟩
  exact dA W0 _ R v len p _ B0 Q BX lo xp xo xc k s.length _ _ _ la _ lc je jd jk g9 _ _ _ _ _ _ _ _ _ _ _ _ _ _ _ _ _ _ _ _ _ _ _ _ _ _ _ _ _ _ _ _ _ _ _ _ _ _ _ _ _ _ _ _ _ _ _ _ _ _ _ _ _ _ _ _ _ _ _ _ _ _ _ _ _ _ _ _ _ _ _ _ _ _ _ _ _ _ _ _ _ _ _ _ _ _ _ _ _ _ _ _ _ _ _ _ _ _ _ _ _ _ _ _ _ _ _ _ _ _ _ _ _ _ _ _ _ _ _ _ _ _ _ _ _ _ _ _ _ _ _ _ _ _ _ _ _ _ _ _ _ _ _ _ _ _ _ _ _ _ _ _ _ _ _ _ _ _ _ _ _ _ _ _ _ _ _ _ _ _ _ _ _ _ _ _ _ _ _ _ _ _ _ _ _ _ _ _ _ _ _ _ _ _
 obtain⟨x,y,ls,gM⟩:∃ x y ls,b.lines=x::y::ls:=by
  match hb:b.lines with
  |[]=>rw[hb]at h0;simp at h0
  |[_]=>rw[hb]at h0;simp at h0
  |x::y::ls=>exact⟨x,y,ls,rfl⟩
 obtain⟨lp,lq,a0,c0,a1,c1,u,m,Du,iN,ho,Bv,h0c,h1c,ER⟩:∃ (lp lq:Nat) (a0:Option Addr) (c0:Nat) (a1:Option Addr) (c1:Nat) (u:TypeId) (m:Nat),la=some ⟨lp,lq,none⟩∧(lo≤lp∧(lp≠xp∧lp<Q)∧lp<W.heap.size)∧aL W lp u m∧lq+b.lines.length*2≤m∧W.rangeAt lp lq [.string x.key,.slice a0 x.ws.length c0]∧W.rangeAt lp (lq+2) [.string y.key,.slice a1 y.ws.length c1]∧∃ Gk:List Nat,(i4 W xp xo lo (s.take k) (s.drop (k+1)) (fun c=>c∈Gk∨Q≤c)∧lp∈Gk∧∀ c∈Gk,lo≤c∧c≠xp∧c<Q)∧∀ W1 W2 W3,Bel W W1→W2=W1.setCells lp lq [.string y.key,.slice a1 y.ws.length c1]→W3=W2.setCells lp (lq+2) [.string x.key,.slice a0 x.ws.length c0]→∃ F',Rep W3 false aJ F' [aU (y::x::ls)] [.slice la b.lines.length lc]∧∀ b∈F',b∈Gk:=by
  obtain⟨Gk,rk,nk,hG,hh⟩:=HX.out.hole;rw[gM]at rk;obtain⟨lp,lq,u,m,a0,c0,a1,c1,Du,mT,ho,Bv,h0,h1,ER⟩:=zr rk nk;rw[← gM]at ER Bv;exact⟨lp,lq,a0,c0,a1,c1,u,m,Du,⟨(hG _ mT).1,(hG _ mT).2,ho.lt⟩,ho,Bv,h0,h1,Gk,⟨hh,mT,hG⟩,ER⟩
 subst Du;have h2l:2≤b.lines.length:=by omega
 have jD:Hid (lo≤lp∧(lp≠xp∧lp<Q)∧lp<W.heap.size):=iN;have JZ:=uh ER;have By:Hid (Pl.wbl ⟨b.kind,b.name,y::x::ls⟩≤300000):=by
  have h1:=(HB.out.one (HX.out.mem HN.out.1)).1;have h2:Pl.wbl b=b.kind.size+b.name.size+(b.lines.map fun x=>Pl.wln x+1).sum:=rfl;rw[gM]at h2;simp only[List.map_cons,List.sum_cons]at h2;show b.kind.size+b.name.size+((y::x::ls).map fun x=>Pl.wln x+1).sum≤300000;simp only[List.map_cons,List.sum_cons];omega
 obtain⟨W1,gq⟩:∃ W1,W1=W.alloc (.cells #[.string x.key,.slice a0 x.ws.length c0] 53):=⟨_,rfl⟩
 obtain⟨FB,MD⟩:∃ FB,FB=W.heap.size:=⟨_,rfl⟩
 have bZ:Bel W W1:=by rw[gq];exact ah zR _
 have Hy:Hid (aK W1 FB 53 [.string x.key,.slice a0 x.ws.length c0]):=by show aK _ _ _ _;rw[gq,MD];exact aK.new W [.string x.key,.slice a0 x.ws.length c0] 53 _ rfl
 have HFZ:Hid (FB≠lp):=by show FB≠lp;have:=jD.out;omega
 have fz:=uh bZ;have HPa:=uh (HP.out.ae bZ);have HOW:=uh (ho.ae bZ);have HOM:Hid (lq+(#[.string y.key,.slice a1 y.ws.length c1]:Array Value).size≤m):=by show lq+2≤m;omega
 have MF:Hid (lq+2+(#[.string x.key,.slice a0 x.ws.length c0]:Array Value).size≤m):=by show lq+2+2≤m;omega
 have xI:Hid (W1.rangeAt lp (lq+1*2) [.string y.key,.slice a1 y.ws.length c1]):=aA h1c jD.out.2.2 bZ;have uL:Hid (lp<W1.heap.size):=zL jD.out.2.2 bZ.size;have BD:(1:Int)<(b.lines.length:Int):=by omega
 have hg0:(0:Int)<(b.lines.length:Int):=by omega
 have MW:0<b.lines.length:=by omega
 have b2:=HP.out.bbx.get 2 _ rfl;have bl:=HP.out.bbx.own.lt;have ll:=jD.out.2.2;clear ER iN ho Bv h1c h2l h0 gM;simp only[sw,sk6,sk5,sk4,sk3,sk2,sk1,sk0,Try.f43,Option.getD_some,sfst_seq,ssnd_seq];go_upto_region 30 with(refine wpList_load_mid rfl 53 _ rfl lp lq rfl [.string x.key,.slice a0 x.ws.length c0] _ h0c Try.underlying53 rfl (by kernel_rfl) ?_)
 rw[← gq,← MD];clear gq MD bZ b2 bl ll h0c;refine RY.ly W1 zR (VS6 BX lp lq b lc y a1 c1) (Am _ _ _ _ _ _ _ _) (fun _ W'=>∃ X,Bel W1 X∧W'=X.setCells lp lq [.string y.key,.slice a1 y.ws.length c1]) 7 12 (by kernel_rfl) (by kernel_rfl) (by kernel_rfl) (by kernel_rfl) rfl [5,6] (by kernel_rfl) (by kernel_rfl) _ rfl rfl (by kernel_rfl) ?_ ?_ ?_
 ·intro ii o' ho Kr a X hX hk hd;have zBX:=HPa.out.bbx.ae hX;have zBXl:=zBX.own.lt;match ii,ho with
  |0,ho=>
   injection ho with ho;subst ho
   have e7:a.tmps[7]?.getD undef=.pointer (some ⟨BX,0,none⟩):=(RY.af a 7).trans ((hk 7 (by kernel_rfl)).trans rfl);exact Or.inl ⟨.pointer (some ⟨BX,2,none⟩),X,by simp[execOp,go_sem,e7],zR,rfl⟩
  |1,ho=>
   injection ho with ho;subst ho
   have e156:a.tmps[156]?.getD undef=.pointer (some ⟨BX,2,none⟩):=(RY.af a 156).trans (hd 0 _ 156 rfl rfl ⟨⟨0,.data⟩,by simp,rfl,rfl⟩ (by decide));have ycl_:=zBX.get 2 _ rfl;exact Or.inl ⟨.slice (some ⟨lp,lq,none⟩) b.lines.length lc,X,by simp[execOp,go_sem,e156,ycl_],zR,rfl⟩
  |2,ho=>
   injection ho with ho;subst ho
   have e7:a.tmps[7]?.getD undef=.pointer (some ⟨BX,0,none⟩):=(RY.af a 7).trans ((hk 7 (by kernel_rfl)).trans rfl);exact Or.inl ⟨.pointer (some ⟨BX,2,none⟩),X,by simp[execOp,go_sem,e7],zR,rfl⟩
  |3,ho=>
   injection ho with ho;subst ho
   have e158:a.tmps[158]?.getD undef=.pointer (some ⟨BX,2,none⟩):=(RY.af a 158).trans (hd 2 _ 158 rfl rfl ⟨⟨2,.data⟩,by simp,rfl,rfl⟩ (by decide));have ycl_:=zBX.get 2 _ rfl;exact Or.inl ⟨.slice (some ⟨lp,lq,none⟩) b.lines.length lc,X,by simp[execOp,go_sem,e158,ycl_],zR,rfl⟩
  |4,ho=>
   injection ho with ho;subst ho
   have e159:a.tmps[159]?.getD undef=.slice (some ⟨lp,lq,none⟩) b.lines.length lc:=(RY.af a 159).trans (hd 3 _ 159 rfl rfl ⟨⟨3,.data⟩,by simp,rfl,rfl⟩ (by decide));exact Or.inl ⟨.pointer (some ⟨lp,lq+1*2,none⟩),X,by simp[execOp,go_sem,e159,BD],zR,rfl⟩
  |5,ho=>
   injection ho with ho;subst ho
   have v160:a.eval (.tmp 160)=.pointer (some ⟨lp,lq+1*2,none⟩):=hd 4 _ 160 rfl rfl ⟨⟨4,.data⟩,by simp,rfl,rfl⟩ (by decide);exact Or.inl ⟨_,X,aq 53 _ rfl lp (lq+1*2) v160 [.string y.key,.slice a1 y.ws.length c1] _ (aA xI.out uL.out hX) Try.underlying53 rfl (by kernel_rfl),zR,rfl⟩
  |6,ho=>
   injection ho with ho;subst ho
   have e157:a.tmps[157]?.getD undef=.slice (some ⟨lp,lq,none⟩) b.lines.length lc:=(RY.af a 157).trans (hd 1 _ 157 rfl rfl ⟨⟨1,.data⟩,by simp,rfl,rfl⟩ (by decide));exact Or.inl ⟨.pointer (some ⟨lp,lq,none⟩),X,by simp[execOp,go_sem,e157,MW],zR,rfl⟩
  |n+7,ho=>omega
 ·intro a X vals hX hk hV hd;have f161:=(hd 5 _ 161 rfl rfl ⟨⟨5,.data⟩,by simp,rfl,rfl⟩ (by decide)).trans (hV 5 (by decide));have f162:=(hd 6 _ 162 rfl rfl ⟨⟨6,.data⟩,by simp,rfl,rfl⟩ (by decide)).trans (hV 6 (by decide));have bG:X.there lp lq (#[.string y.key,.slice a1 y.ws.length c1]:Array Value).size:=aR (HOW.out.ae hX) _ _ HOM.out;exact⟨X.setCells lp lq [.string y.key,.slice a1 y.ws.length c1],RY.cn _ _ _ rfl f162 f161 bG (by kernel_rfl) (by simp[Value.oneCell']),X,hX,rfl⟩
 ·intro vals vs X hK bd;simp only[RY.aE,Act.put,List.setIfInBounds_toArray,List.set_cons_zero,List.set_cons_succ];generalize vs 156=s156;generalize vs 157=s157;generalize vs 158=s158;generalize vs 159=s159;generalize vs 160=s160;generalize vs 161=s161;generalize vs 162=s162;clear bd;obtain⟨X0,Kl,pV⟩:=hK;obtain⟨W2,Dv⟩:∃ W2,W2=X0.setCells lp lq [.string y.key,.slice a1 y.ws.length c1]:=⟨_,rfl⟩
  rw[pV,← Dv];clear pV;have vR:=HP.out.ord;have KM:=jD.out;have mS:Marks (fun c=>c=lp) X0 W2:=by rw[Dv];exact aN (S:=fun c=>c=lp) rfl _ _ _
  have gO:=uh ((HPa.out.ae Kl).mks mS (fun c e=>by have:c=lp:=e;omega));have Bs:=uh ((Hy.out.ae Kl).mks mS (by have:=HFZ.out;omega));have fC:=uh (mS.own _ _ _ (HOW.out.ae Kl));have mQ:=uh Kl;have iB:=uh mS;have Kz:=uh Dv;clear Kl Dv mS;have b2:=gO.out.bbx.get 2 _ rfl;have bl:=gO.out.bbx.own.lt;have fa:=Bs.out.at_;have fl:=Bs.out.own.lt;have bG:W2.there lp (lq+2) (#[.string x.key,.slice a0 x.ws.length c0]:Array Value).size:=aR fC.out _ _ MF.out;go_wp2_with (first|(refine wpList_load_mid rfl 53 _ rfl FB 0 rfl [.string x.key,.slice a0 x.ws.length c0] _ fa Try.underlying53 rfl (by kernel_rfl) ?_)|(refine wpList_store_mid rfl 53 _ _ rfl lp (lq+2) #[.string x.key,.slice a0 x.ws.length c0] rfl rfl bG (by kernel_rfl) (by simp[Value.oneCell']) ?_))
  obtain⟨W3,fj⟩:∃ W3,W3=W2.setCells lp (lq+2) [.string x.key,.slice a0 x.ws.length c0]:=⟨_,rfl⟩
  rw[← fj];have yA:Marks (fun c=>c=lp) W2 W3:=by rw[fj];exact aN (S:=fun c=>c=lp) rfl _ _ _
  have je:=uh (gO.out.mks yA (fun c e=>by have:c=lp:=e;omega));have EH:Bel W X0:=⟨by rw[mQ.out.os,fz.out.os],by rw[mQ.out.tape,fz.out.tape],by rw[mQ.out.output,fz.out.output],Nat.le_trans fz.out.size mQ.out.size,fun c hc=>by rw[mQ.out.block c (by have:=fz.out.size;omega),fz.out.block c hc]⟩
  obtain⟨Gk,hh,ER⟩:=JZ.out;obtain⟨F9,r9,ib⟩:=ER X0 W2 W3 EH Kz.out fj;have EX:=((hh.1.ae EH).aY iB.out (fun c e=>Or.inl (Or.inl (by have e:c=lp:=e;rw[e];exact hh.2.1)))).aY yA (fun c e=>Or.inl (Or.inl (by have e:c=lp:=e;rw[e];exact hh.2.1)));have BJ:=EX.fill (N:=W3.heap.size) ⟨b.kind,b.name,y::x::ls⟩ (lv:=.slice (some ⟨lp,lq,none⟩) b.lines.length lc) ⟨F9,r9,fun c hc=>Or.inl ⟨by have:=hh.2.2 c (ib c hc);omega,r9.lt c hc⟩⟩ (by have:=EX.lt;omega);have Bq:(s.take k).length=k:=by rw[List.length_take];have:=HN.out.1;omega
  have Ds:s.take k++⟨b.kind,b.name,y::x::ls⟩::s.drop (k+1)=s.set k ⟨b.kind,b.name,y::x::ls⟩:=by rw[List.set_eq_take_append_cons_drop,if_pos HN.out.1]
  have Hw:=EX.there;rw[Bq]at BJ Hw;rw[Ds]at BJ;have bN:=HX.out.lt;have jd:Hid (cv (W3.setCells xp (xo+k*3) [.string b.kind,.string b.name,.slice (some ⟨lp,lq,none⟩) b.lines.length lc]) xp xo lo (s.set k ⟨b.kind,b.name,y::x::ls⟩)∧Sw (s.set k ⟨b.kind,b.name,y::x::ls⟩)):=⟨BJ,HB.out.set k _ By.out⟩
  have jk:Hid ((s.set k ⟨b.kind,b.name,y::x::ls⟩).length=s.length∧(s.length≤maxLen∧s.length≤xc)∧k<s.length∧xp≠Q∧xp≠BX∧lo≤xp∧W3.there xp (xo+k*3) 3):=⟨by rw[List.length_set],HN.out.2.2,HN.out.1,by omega,by omega,bN.1,Hw⟩
  have g9:Hid (Rd W3 R v len q∧q≤p+1000000):=⟨((HR.out.1.ae EH).mks iB.out (fun c e=>by have:c=lp:=e;omega)).mks yA (fun c e=>by have:c=lp:=e;omega),by have:=HR.out.2;omega⟩
  clear yA EH hh ER r9 ib EX BJ Bq Ds Hw bN vR KM fj;exact dA W0 _ R v len p _ B0 Q BX lo xp xo xc k s.length _ _ _ _ _ _ je jd jk g9 _ _ _ _ _ _ _ _ _ _ _ _ _ _ _ _ _ _ _ _ _ _ _ _ _ _ _ _ _ _ _ _ _ _ _ _ _ _ _ _ _ _ _ _ _ _ _ _ _ _ _ _ _ _ _ _ _ _ _ _ _ _ _ _ _ _ _ _ _ _ _ _ _ _ _ _ _ _ _ _ _ _ _ _ _ _ _ _ _ _ _ _ _ _ _ _ _ _ _ _ _ _ _ _ _ _ _ _ _ _ _ _ _ _ _ _ _ _ _ _ _ _ _ _ _ _ _ _ _ _ _ _ _ _ _ _ _ _ _ _ _ _ _ _ _ _ _ _ _ _ _ _ _ _ _ _ _ _ _ _ _ _ _ _ _ _ _ _ _ _ _ _ _ _ _ _ _ _ _ _ _ _ _ _ _ _ _ _ _ _ _ _ _ _
end Go.Proofs.Ytmgibmmpopoboaa
