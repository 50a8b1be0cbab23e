import Derived.Test.YtmgibmmpopoboaaEEa
namespace Go.Proofs.Ytmgibmmpopoboaa
set_option maxRecDepth 8000
set_option maxHeartbeats 40000000
open Go.RowKit Go.Deep
def VS4 (R:Nat) (BX lp lq ln lc n wp wo wn cw:Nat):Nat→Value→World→Prop
 |0,u,_=>u=.pointer (some ⟨BX,2,none⟩)
 |1,u,_=>u=.slice (some ⟨lp,lq,none⟩) ln lc
 |2,u,_=>u=.int .i64 (n:Int)
 |3,u,_=>u=.pointer (some ⟨lp,lq+n*2,none⟩)
 |4,u,_=>u=.pointer (some ⟨lp,lq+n*2+1,none⟩)
 |5,u,_=>u=.slice (some ⟨wp,wo,none⟩) wn cw
 |6,u,_=>u=.pointer (some ⟨R,0,none⟩)
 |7,u,_=>∃ x:ByteArray,x.size≤250∧u=.string x
 |8,u,_=>u=.pointer (some ⟨wp,wo,none⟩)
 |_,_,_=>True
theorem AK (R:Nat) (BX lp lq ln lc n wp wo wn cw:Nat):∀ j u W W',Fr R W W'→R<W.heap.size→VS4 R BX lp lq ln lc n wp wo wn cw j u W→VS4 R BX lp lq ln lc n wp wo wn cw j u W':=by
 intro j u W W' hb bN h;match j with
 |0=>exact h
 |1=>exact h
 |2=>exact h
 |3=>exact h
 |4=>exact h
 |5=>exact h
 |6=>exact h
 |7=>exact h
 |8=>exact h
 |n+9=>exact trivial
theorem CO:gH 4:=by
 intro W0 W b R v len p q B0 Q BX lo xp xo xc k n s la lc HP HX HN HB HR K hK u1 u2 u3 u9 u10 u11 u12 u13 u14 u15 u16 u17 u18 u19 u20 u21 u22 u23 u24 u25 u26 u27 u28 u29 u30 u31 u32 u33 u34 u35 u36 u37 u39 u40 u41 u42 u43 u44 u45 u46 u47 u48 u49 u50 u51 u52 u53 u54 u55 u56 u57 u58 u59 u60 u61 u62 u63 u64 u65 u66 u67 u68 u69 u70 u71 u72 u73 u74 u75 u76 u77 u78 u79 u80 u81 u82 u83 u84 u85 u86 u87 u88 u89 u90 u91 u92 u93 u94 u95 u96 u97 u98 u99 u100 u101 u102 u103 u104 u105 u106 u107 u108 u109 u110 u111 u112 u113 u114 u115 u116 u117 u118 u119 u120 u121 u122 u123 u124 u125 u126 u127 u128 u129 u130 u131 u132 u133 u134 u135 u136 u137 u138 u139 u140 u141 u142 u143 u144 u145 u146 u147 u148 u149 u150 u151 u152 u153 u154 u155 u156 u157 u158 u159 u160 u161 u162 u163 u164 u165 u166 u167 u168 u169 u170 u171 u172 u173 u174 u175 u176 u177 u178 u179 u180 u181 u182 u183 u184 u185 u186 u187 u188 u189 u190 u191 u192 u193 u194 u195 u196 u197 u198;by_cases h0:b.lines.length=0
 ·have BD:¬ (0:Int)<(b.lines.length:Int):=by omega
  have b2:=HP.out.bbx.get 2 _ rfl;have bl:=HP.out.bbx.own.lt;simp only[sw,sk6,sk5,sk4,sk3,sk2,sk1,sk0,Try.f43,Option.getD_some,sfst_seq,ssnd_seq];go_wp2;have jd:=uh (HX.out.none HN.out.1 HB.out);have jk:=uh (HX.out.hn HN.out.1 HN.out.2.2 (s':=s) rfl);have je:=HP;have g9:Hid (Rd W R v len q∧q≤p+1000000):=⟨HR.out.1,by have:=HR.out.2;omega⟩
  exact dA W0 _ R v len p _ B0 Q BX lo xp xo xc k s.length _ _ _ la _ lc je jd jk g9 _ _ _ _ _ _ _ _ _ _ _ _ _ _ _ _ _ _ _ _ _ _ _ _ _ _ _ _ _ _ _ _ _ _ _ _ _ _ _ _ _ _ _ _ _ _ _ _ _ _ _ _ _ _ _ _ _ _ _ _ _ _ _ _ _ _ _ _ _ _ _ _ _ _ _ _ _ _ _ _ _ _ _ _ _ _ _ _ _ _ _ _ _ _ _ _ _ _ _ _ _ _ _ _ _ _ _ _ _ _ _ _ _ _ _ _ _ _ _ _ _ _ _ _ _ _ _ _ _ _ _ _ _ _ _ _ _ _ _ _ _ _ _ _ _ _ _ _ _ _ _ _ _ _ _ _ _ _ _ _ _ _ _ _ _ _ _ _ _ _ _ _ _ _ _ _ _ _ _ _ _ _ _ _ _ _ _ _ _ _ _ _ _ _
 have HNL:Hid (n<b.lines.length):=HN.out.2.1 (by omega);obtain⟨x,hx⟩:∃ x,b.lines.getD n Pl.aQ=x:=⟨_,rfl⟩
 have qX:=uh hx;obtain⟨lp,lq,aw,cw,Du,I5,iN,hwo⟩:∃ lp lq aw cw,la=some ⟨lp,lq,none⟩∧W.cell? ⟨lp,lq+n*2+1,none⟩=some (.slice aw x.ws.length cw)∧(lo≤lp∧lp≠xp∧lp<W.heap.size)∧(0<x.ws.length→∃ wp wo,aw=some ⟨wp,wo,none⟩):=by
  obtain⟨Gk,rk,nk,hG,_⟩:=HX.out.hole;obtain⟨p2,o2,u,m,aw,cw,F2,e2,mT,ho,Bv,hg,rl,_⟩:=dU rk HNL.out;rw[hx]at hg rl;refine⟨p2,o2,aw,cw,e2,aF hg 1 _ rfl,⟨(hG _ mT).1,(hG _ mT).2.1,ho.lt⟩,fun h=> ?_⟩;obtain⟨p3,o3,_,_,_,e5,_⟩:=nT rl h;exact⟨p3,o3,e5⟩
 subst Du;have I9:=uh I5;have jD:=uh iN;have BD:(0:Int)<(b.lines.length:Int):=by omega
 have Gs:(0:Int)≤(n:Int):=by omega
 have BR:(n:Int)<(b.lines.length:Int):=by have:=HNL.out;omega
 clear I5 iN hx;by_cases w0:x.ws.length=0
 ·have Ie:¬ (0:Int)<(x.ws.length:Int):=by omega
  clear hwo;have b2:=HP.out.bbx.get 2 _ rfl;have bl:=HP.out.bbx.own.lt;have yc0:=I9.out;have yl0:=jD.out.2.2;simp only[sw,sk6,sk5,sk4,sk3,sk2,sk1,sk0,Try.f43,Option.getD_some,sfst_seq,ssnd_seq];go_wp2;have jd:=uh (HX.out.none HN.out.1 HB.out);have jk:=uh (HX.out.hn HN.out.1 HN.out.2.2 (s':=s) rfl);have je:=HP;have g9:Hid (Rd W R v len q∧q≤p+1000000):=⟨HR.out.1,by have:=HR.out.2;omega⟩
  exact dA W0 _ R v len p _ B0 Q BX lo xp xo xc k s.length _ _ _ _ _ lc je jd jk g9 _ _ _ _ _ _ _ _ _ _ _ _ _ _ _ _ _ _ _ _ _ _ _ _ _ _ _ _ _ _ _ _ _ _ _ _ _ _ _ _ _ _ _ _ _ _ _ _ _ _ _ _ _ _ _ _ _ _ _ _ _ _ _ _ _ _ _ _ _ _ _ _ _ _ _ _ _ _ _ _ _ _ _ _ _ _ _ _ _ _ _ _ _ _ _ _ _ _ _ _ _ _ _ _ _ _ _ _ _ _ _ _ _ _ _ _ _ _ _ _ _ _ _ _ _ _ _ _ _ _ _ _ _ _ _ _ _ _ _ _ _ _ _ _ _ _ _ _ _ _ _ _ _ _ _ _ _ _ _ _ _ _ _ _ _ _ _ _ _ _ _ _ _ _ _ _ _ _ _ _ _ _ _ _ _ _ _ _ _ _ _ _ _ _
 have tF:Hid (0<x.ws.length):=by show 0<_;omega
 have tz:(0:Int)<(x.ws.length:Int):=by omega
 have Jp:0<x.ws.length:=tF.out;obtain⟨wp,wo,haw⟩:=hwo tF.out;subst haw;have b2:=HP.out.bbx.get 2 _ rfl;have bl:=HP.out.bbx.own.lt;have yc0:=I9.out;have yl0:=jD.out.2.2;simp only[sw,sk6,sk5,sk4,sk3,sk2,sk1,sk0,Try.f43,Option.getD_some,sfst_seq,ssnd_seq];go_upto_region 23 with fail
 clear b2 bl yc0 yl0 BD h0 w0;refine RY.iz R v len q HR.out.1 (VS4 R BX lp lq b.lines.length lc n wp wo x.ws.length cw) (AK R _ _ _ _ _ _ _ _ _ _) (fun _ W'=>∃ t X q',t.size≤250∧Fr R W X∧Rd X R v len q'∧q'≤q+20000∧W'=X.setCell ⟨wp,wo,none⟩ (.string t)) 9 14 (by kernel_rfl) (by kernel_rfl) (by kernel_rfl) (by kernel_rfl) rfl [7,8] (by kernel_rfl) (by kernel_rfl) _ rfl rfl (by kernel_rfl) ?_ ?_ ?_
 ·intro i' o' ho gN a X pp hX hR tb hk hd;have zb:=HP.out.bbx.fr hX (by have:=HP.out.ord;omega);have zc:=zb.get 2 _ rfl;have zl:=zb.own.lt;have yc:=(hX.cell (k:=lp) (j:=lq+n*2+1) (by have:=jD.out;have:=HP.out.ord;omega) jD.out.2.2).trans I9.out;have ylx:=zL jD.out.2.2 hX.bel.size;match i',ho with
  |0,ho=>
   injection ho with ho;subst ho
   have e7:a.tmps[7]?.getD undef=.pointer (some ⟨BX,0,none⟩):=(RY.af a 7).trans ((hk 7 (by kernel_rfl)).trans rfl);exact Or.inl ⟨.pointer (some ⟨BX,2,none⟩),X,by simp[execOp,go_sem,e7],zR,rfl⟩
  |1,ho=>
   injection ho with ho;subst ho
   have e121:a.tmps[121]?.getD undef=_:=(RY.af a 121).trans (hd 0 _ 121 rfl rfl ⟨⟨0,.data⟩,by simp,rfl,rfl⟩ (by decide));exact Or.inl ⟨.slice (some ⟨lp,lq,none⟩) b.lines.length lc,X,by simp[execOp,go_sem,e121,zc],zR,rfl⟩
  |2,ho=>
   injection ho with ho;subst ho
   have e8:a.tmps[8]?.getD undef=.int .i64 (n:Int):=(RY.af a 8).trans ((hk 8 (by kernel_rfl)).trans rfl);exact Or.inl ⟨.int .i64 (n:Int),X,by simp[execOp,go_sem,e8],zR,rfl⟩
  |3,ho=>
   injection ho with ho;subst ho
   have e122:a.tmps[122]?.getD undef=_:=(RY.af a 122).trans (hd 1 _ 122 rfl rfl ⟨⟨1,.data⟩,by simp,rfl,rfl⟩ (by decide));have e123:a.tmps[123]?.getD undef=_:=(RY.af a 123).trans (hd 2 _ 123 rfl rfl ⟨⟨2,.data⟩,by simp,rfl,rfl⟩ (by decide));exact Or.inl ⟨.pointer (some ⟨lp,lq+n*2,none⟩),X,by simp[execOp,go_sem,e122,e123,Gs,BR],zR,rfl⟩
  |4,ho=>
   injection ho with ho;subst ho
   have e124:a.tmps[124]?.getD undef=_:=(RY.af a 124).trans (hd 3 _ 124 rfl rfl ⟨⟨3,.data⟩,by simp,rfl,rfl⟩ (by decide));exact Or.inl ⟨.pointer (some ⟨lp,lq+n*2+1,none⟩),X,by simp[execOp,go_sem,e124],zR,rfl⟩
  |5,ho=>
   injection ho with ho;subst ho
   have e125:a.tmps[125]?.getD undef=_:=(RY.af a 125).trans (hd 4 _ 125 rfl rfl ⟨⟨4,.data⟩,by simp,rfl,rfl⟩ (by decide));exact Or.inl ⟨.slice (some ⟨wp,wo,none⟩) x.ws.length cw,X,by simp[execOp,go_sem,e125,yc],zR,rfl⟩
  |6,ho=>
   injection ho with ho;subst ho
   have e0:a.tmps[0]?.getD undef=.pointer (some ⟨R,0,none⟩):=(RY.af a 0).trans ((hk 0 (by kernel_rfl)).trans rfl);exact Or.inl ⟨.pointer (some ⟨R,0,none⟩),X,by simp[execOp,go_sem,e0],zR,rfl⟩
  |7,ho=>
   injection ho with ho;subst ho
   have e127:a.tmps[127]?.getD undef=_:=(RY.af a 127).trans (hd 6 _ 127 rfl rfl ⟨⟨6,.data⟩,by simp,rfl,rfl⟩ (by decide));refine Or.inr ⟨72,#[.pointer (some ⟨R,0,none⟩)],by simp[go_sem,e127],(Al R v len pp X hR (by have:=HR.out.2;omega)).mono ?_⟩;rintro e W' ⟨⟨x,rfl,hx⟩,hF,q2,Hn,xL⟩;exact⟨_,rfl,hF,⟨q2,Hn,xL⟩,x,hx,rfl⟩
  |8,ho=>
   injection ho with ho;subst ho
   have e126:a.tmps[126]?.getD undef=_:=(RY.af a 126).trans (hd 5 _ 126 rfl rfl ⟨⟨5,.data⟩,by simp,rfl,rfl⟩ (by decide));exact Or.inl ⟨.pointer (some ⟨wp,wo,none⟩),X,by simp[execOp,go_sem,e126,Jp],zR,rfl⟩
  |n+9,ho=>omega
 ·intro a X vals pp hX hR tb hk hV hd;obtain⟨t,ht,e128⟩:=hV 7 (by decide);have f128:=(RY.af a 128).trans ((hd 7 _ 128 rfl rfl ⟨⟨7,.data⟩,by simp,rfl,rfl⟩ (by decide)).trans e128);have f129:=(RY.af a 129).trans ((hd 8 _ 129 rfl rfl ⟨⟨8,.data⟩,by simp,rfl,rfl⟩ (by decide)).trans (hV 8 (by decide)));have Bj:=HX.out.step hX HR.out.1 hR (by have:=HP.out.ord;omega);obtain⟨Gk,rk,nk,hG,hh⟩:=Bj.hole;have yc:=(hX.cell (k:=lp) (j:=lq+n*2+1) (by have:=jD.out;have:=HP.out.ord;omega) jD.out.2.2).trans I9.out;have ylx:=zL jD.out.2.2 hX.bel.size;obtain⟨p2,o2,_,_,aw,Is,F2,e2,Lt,_,_,oR,rl,⟨G2,Gf,eM⟩,_⟩:=dU rk HNL.out;injection e2 with e2
  injection e2 with e3 e4 _
  subst e3;subst e4;rw[qX.out]at rl oR;have MH:=aF oR 1 _ rfl;have oU:some (Value.slice aw x.ws.length Is)=some (.slice (some ⟨wp,wo,none⟩) x.ws.length cw):=MH.symm.trans (by first|exact yc|exact JK);injection oU with oU
  injection oU with oU _ hgc2
  subst oU;subst hgc2;obtain⟨p3,o3,u,m,x0,e5,yq,ho,Bv,uM⟩:=nT rl tF.out;injection e5 with e5
  injection e5 with e6 e7 _
  subst e6;subst e7;have mT:wp∈Gk:=by rw[Gf];exact List.mem_cons_of_mem _ (eM _ yq)
  have Il:=ho.frozen;have hz:=ho.lt;refine⟨X.setCell ⟨wp,wo,none⟩ (.string t), ?_,t,X,pp,ht,hX,hR,by omega,rfl⟩;simp[execOp,go_sem,f129,f128,uM,Il]
 ·rintro vals vs X Ly bd;simp only[RY.aE,Act.put,List.setIfInBounds_toArray,List.set_cons_zero,List.set_cons_succ];generalize vs 121=s121,vs 122=s122,vs 123=s123,vs 124=s124,vs 125=s125,vs 126=s126,vs 127=s127,vs 128=s128,vs 129=s129;clear bd;obtain⟨t,X1,q',ht,oF,lg,Ce,fj⟩:=Ly;subst fj;obtain⟨W3,fj⟩:∃ W3,W3=X1.setCell ⟨wp,wo,none⟩ (.string t):=⟨_,rfl⟩
  rw[← fj];have Hk:=HX.out.step oF HR.out.1 lg (by have:=HP.out.ord;omega);obtain⟨Gk,rk,nk,hG,hh⟩:=Hk.hole;have JK:=(oF.cell (k:=lp) (j:=lq+n*2+1) (by have:=jD.out;have:=HP.out.ord;omega) jD.out.2.2).trans I9.out;obtain⟨p2,o2,_,_,aw,Is,F2,e2,Lt,_,_,oR,rl,⟨G2,Gf,eM⟩,_⟩:=dU rk HNL.out;injection e2 with e2
  injection e2 with e3 e4 _
  subst e3;subst e4;rw[qX.out]at rl oR;have MH:=aF oR 1 _ rfl;have oU:some (Value.slice aw x.ws.length Is)=some (.slice (some ⟨wp,wo,none⟩) x.ws.length cw):=MH.symm.trans (by first|exact yc|exact JK);injection oU with oU
  injection oU with oU _ hgc2
  subst oU;subst hgc2;obtain⟨p3,o3,u,m,x0,e5,yq,ho,Bv,uM⟩:=nT rl tF.out;injection e5 with e5
  injection e5 with e6 e7 _
  subst e6;subst e7;have mT:wp∈Gk:=by rw[Gf];exact List.mem_cons_of_mem _ (eM _ yq)
  have hb:=hG wp mT;obtain⟨s',h9,JY,Kq⟩:=yK (HP.out.step oF) Hk HN.out.1 HN.out.2.2 HB.out (B:=wp) (O:=wo) ⟨hb.1,hb.2.2,hb.2.1⟩ ho (by omega) uM ht W3 fj;have je:=uh h9;have jd:=uh JY;have jk:=uh Kq;have hm:Marks (fun b=>b=wp) X1 W3:=by rw[fj];exact Marks.sc (S:=fun b=>b=wp) X1 rfl _ _
  have g9:Hid (Rd W3 R v len q'∧q'≤p+1000000):=⟨lg.mks hm (fun c e=>by have:c=wp:=e;have:=HP.out.ord;omega),by have:=HR.out.2;omega⟩
  clear h9 JY Kq hm hb fj Hk rk nk hG hh oF lg Ce ht ho uM;go_wp2;exact dA W0 _ R v len p _ B0 Q BX lo xp xo xc k s.length _ _ _ _ _ lc je jd jk g9 _ _ _ _ _ _ _ _ _ _ _ _ _ _ _ _ _ _ _ _ _ _ _ _ _ _ _ _ _ _ _ _ _ _ _ _ _ _ _ _ _ _ _ _ _ _ _ _ _ _ _ _ _ _ _ _ _ _ _ _ _ _ _ _ _ _ _ _ _ _ _ _ _ _ _ _ _ _ _ _ _ _ _ _ _ _ _ _ _ _ _ _ _ _ _ _ _ _ _ _ _ _ _ _ _ _ _ _ _ _ _ _ _ _ _ _ _ _ _ _ _ _ _ _ _ _ _ _ _ _ _ _ _ _ _ _ _ _ _ _ _ _ _ _ _ _ _ _ _ _ _ _ _ _ _ _ _ _ _ _ _ _ _ _ _ _ _ _ _ _ _ _ _ _ _ _ _ _ _ _ _ _ _ _ _ _ _ _ _ _ _ _ _ _
end Go.Proofs.Ytmgibmmpopoboaa
