import Derived.Test.YtmgibmmpopoboaaEEa
namespace Go.Proofs.Ytmgibmmpopoboaa
set_option maxRecDepth 8000
set_option maxHeartbeats 40000000
open Go.RowKit Go.Deep
def me:List ByteArray:=[{data:=#[]},{data:=#[105,109,97,103,101]},{data:=#[122,111,110,101]}]
theorem AF:∀ k∈me,k.size≤250:=by decide+kernel
def VS3 (R:Nat) (BX lp lq ln lc n:Nat):Nat→Value→World→Prop
 |0,u,_=>u=.pointer (some ⟨BX,2,none⟩)
 |1,u,_=>u=.slice (some ⟨lp,lq,none⟩) ln lc
 |2,u,_=>u=.int .i64 (n:Int)
 |3,u,W=>∃ c:Nat,u=.slice (some ⟨c,0,none⟩) 3 3∧R<c∧c<W.heap.size∧∀ j,j<3→W.cell? ⟨c,j,none⟩=some (.string (me.getD j ⟨#[]⟩))
 |4,u,_=>u=.pointer (some ⟨R,0,none⟩)
 |5,u,_=>∃ j:Nat,u=.int .i64 (j:Int)∧j<3
 |6,u,W=>∃ c j:Nat,u=.pointer (some ⟨c,j,none⟩)∧R<c∧c<W.heap.size∧∃ x∈me,W.cell? ⟨c,j,none⟩=some (.string x)
 |7,u,_=>∃ x∈me,u=.string x
 |8,u,_=>u=.pointer (some ⟨lp,lq+n*2,none⟩)
 |9,u,_=>u=.pointer (some ⟨lp,lq+n*2,none⟩)
 |_,_,_=>True
theorem Ak (R:Nat) (BX lp lq ln lc n:Nat):∀ j u W W',Fr R W W'→R<W.heap.size→VS3 R BX lp lq ln lc n j u W→VS3 R BX lp lq ln lc n j u W':=by
 intro j u W W' hb bN h;match j with
 |0=>exact h
 |1=>exact h
 |2=>exact h
 |3=>
  obtain⟨c,e,h1,h2,hc⟩:=h;exact⟨c,e,h1,zL h2 hb.bel.size,fun j hj=>(hb.cell h1 h2).trans (hc j hj)⟩
 |4=>exact h
 |5=>exact h
 |6=>
  obtain⟨c,j,e,h1,h2,x,hx,hc⟩:=h;exact⟨c,j,e,h1,zL h2 hb.bel.size,x,hx,(hb.cell h1 h2).trans hc⟩
 |7=>exact h
 |8=>exact h
 |9=>exact h
 |n+10=>exact trivial
theorem C9:gH 3:=by
 intro W0 W b R v len p q B0 Q BX lo xp xo xc k n s la lc HP HX HN HB HR K hK u1 u2 u3 u9 u10 u11 u12 u13 u14 u15 u16 u17 u18 u19 u20 u21 u22 u23 u24 u25 u26 u27 u28 u29 u30 u31 u32 u33 u34 u35 u36 u37 u39 u40 u41 u42 u43 u44 u45 u46 u47 u48 u49 u50 u51 u52 u53 u54 u55 u56 u57 u58 u59 u60 u61 u62 u63 u64 u65 u66 u67 u68 u69 u70 u71 u72 u73 u74 u75 u76 u77 u78 u79 u80 u81 u82 u83 u84 u85 u86 u87 u88 u89 u90 u91 u92 u93 u94 u95 u96 u97 u98 u99 u100 u101 u102 u103 u104 u105 u106 u107 u108 u109 u110 u111 u112 u113 u114 u115 u116 u117 u118 u119 u120 u121 u122 u123 u124 u125 u126 u127 u128 u129 u130 u131 u132 u133 u134 u135 u136 u137 u138 u139 u140 u141 u142 u143 u144 u145 u146 u147 u148 u149 u150 u151 u152 u153 u154 u155 u156 u157 u158 u159 u160 u161 u162 u163 u164 u165 u166 u167 u168 u169 u170 u171 u172 u173 u174 u175 u176 u177 u178 u179 u180 u181 u182 u183 u184 u185 u186 u187 u188 u189 u190 u191 u192 u193 u194 u195 u196 u197 u198;by_cases h0:b.lines.length=0
 ·have BD:¬ (0:Int)<(b.lines.length:Int):=by omega
  have b2:=HP.out.bbx.get 2 _ rfl;have bl:=HP.out.bbx.own.lt;simp only[sw,sk6,sk5,sk4,sk3,sk2,sk1,sk0,Try.f43,Option.getD_some,sfst_seq,ssnd_seq];go_wp2;have jd:=uh (HX.out.none HN.out.1 HB.out);have jk:=uh (HX.out.hn HN.out.1 HN.out.2.2 (s':=s) rfl);have je:=HP;have g9:Hid (Rd W R v len q∧q≤p+1000000):=⟨HR.out.1,by have:=HR.out.2;omega⟩
  exact dA W0 _ R v len p _ B0 Q BX lo xp xo xc k s.length _ _ _ la _ lc je jd jk g9 _ _ _ _ _ _ _ _ _ _ _ _ _ _ _ _ _ _ _ _ _ _ _ _ _ _ _ _ _ _ _ _ _ _ _ _ _ _ _ _ _ _ _ _ _ _ _ _ _ _ _ _ _ _ _ _ _ _ _ _ _ _ _ _ _ _ _ _ _ _ _ _ _ _ _ _ _ _ _ _ _ _ _ _ _ _ _ _ _ _ _ _ _ _ _ _ _ _ _ _ _ _ _ _ _ _ _ _ _ _ _ _ _ _ _ _ _ _ _ _ _ _ _ _ _ _ _ _ _ _ _ _ _ _ _ _ _ _ _ _ _ _ _ _ _ _ _ _ _ _ _ _ _ _ _ _ _ _ _ _ _ _ _ _ _ _ _ _ _ _ _ _ _ _ _ _ _ _ _ _ _ _ _ _ _ _ _ _ _ _ _ _ _ _
 have HNL:Hid (n<b.lines.length):=HN.out.2.1 (by omega);obtain⟨lp,lq,Du⟩:∃ lp lq,la=some ⟨lp,lq,none⟩:=by
  obtain⟨Gk,rk,_⟩:=HX.out.hole;obtain⟨p2,o2,_,_,_,_,_,e2,_⟩:=dU rk HNL.out;exact⟨p2,o2,e2⟩
 subst Du;have BD:(0:Int)<(b.lines.length:Int):=by omega
 have Gs:(0:Int)≤(n:Int):=by omega
 have BR:(n:Int)<(b.lines.length:Int):=by have:=HNL.out;omega
 have b2:=HP.out.bbx.get 2 _ rfl;have bl:=HP.out.bbx.own.lt;simp only[sw,sk6,sk5,sk4,sk3,sk2,sk1,sk0,Try.f43,Option.getD_some,sfst_seq,ssnd_seq];go_upto_region 20 with fail
 clear b2 bl BD h0;refine RY.iz R v len q HR.out.1 (VS3 R BX lp lq b.lines.length lc n) (Ak R _ _ _ _ _ _) (fun _ W'=>∃ t X q',t.size≤250∧Fr R W X∧Rd X R v len q'∧q'≤q+20000∧W'=X.setCell ⟨lp,lq+n*2,none⟩ (.string t)) 10 14 (by kernel_rfl) (by kernel_rfl) (by kernel_rfl) (by kernel_rfl) rfl [7,9] (by kernel_rfl) (by kernel_rfl) _ rfl rfl (by kernel_rfl) ?_ ?_ ?_
 ·intro i' o' ho gN a X pp hX hR tb hk hd;have zb:=HP.out.bbx.fr hX (by have:=HP.out.ord;omega);have zc:=zb.get 2 _ rfl;have zl:=zb.own.lt;match i',ho with
  |0,ho=>
   injection ho with ho;subst ho
   have e7:a.tmps[7]?.getD undef=.pointer (some ⟨BX,0,none⟩):=(RY.af a 7).trans ((hk 7 (by kernel_rfl)).trans rfl);exact Or.inl ⟨.pointer (some ⟨BX,2,none⟩),X,by simp[execOp,go_sem,e7],zR,rfl⟩
  |1,ho=>
   injection ho with ho;subst ho
   have e95:a.tmps[95]?.getD undef=_:=(RY.af a 95).trans (hd 0 _ 95 rfl rfl ⟨⟨0,.data⟩,by simp,rfl,rfl⟩ (by decide));exact Or.inl ⟨.slice (some ⟨lp,lq,none⟩) b.lines.length lc,X,by simp[execOp,go_sem,e95,zc],zR,rfl⟩
  |2,ho=>
   injection ho with ho;subst ho
   have e8:a.tmps[8]?.getD undef=.int .i64 (n:Int):=(RY.af a 8).trans ((hk 8 (by kernel_rfl)).trans rfl);exact Or.inl ⟨.int .i64 (n:Int),X,by simp[execOp,go_sem,e8],zR,rfl⟩
  |3,ho=>
   injection ho with ho;subst ho
   refine Or.inl ⟨.slice (some ⟨X.heap.size,0,none⟩) 3 3,X.alloc (.cells #[.string {data:=#[]},.string {data:=#[105,109,97,103,101]},.string {data:=#[122,111,110,101]}] 9),by simp[execOp,go_sem],ah zR _,X.heap.size,rfl,hR.own.lt,by simp,fun j hj=> ?_⟩;exact fX me X j hj
  |4,ho=>
   injection ho with ho;subst ho
   have e0:a.tmps[0]?.getD undef=.pointer (some ⟨R,0,none⟩):=(RY.af a 0).trans ((hk 0 (by kernel_rfl)).trans rfl);exact Or.inl ⟨.pointer (some ⟨R,0,none⟩),X,by simp[execOp,go_sem,e0],zR,rfl⟩
  |5,ho=>
   injection ho with ho;subst ho
   have e99:a.tmps[99]?.getD undef=_:=(RY.af a 99).trans (hd 4 _ 99 rfl rfl ⟨⟨4,.data⟩,by simp,rfl,rfl⟩ (by decide));refine Or.inr ⟨40,#[.pointer (some ⟨R,0,none⟩),.int .i64 3],by simp[go_sem,e99],(bp R v len pp 3 X hR (by have:=HR.out.2;omega) (by omega)).mono ?_⟩;rintro e W' ⟨⟨r,rfl,hr⟩,hF,xL⟩;obtain⟨j,rfl,hj⟩:=hr.nat;exact⟨_,rfl,hF,⟨pp+1,by omega,xL⟩,j,rfl,by have:=hj (by omega);omega⟩
  |6,ho=>
   injection ho with ho;subst ho
   obtain⟨c,ea,h1,h2,hc⟩:=hd 3 _ 98 rfl rfl ⟨⟨3,.data⟩,by simp,rfl,rfl⟩ (by decide);obtain⟨j,eb,hj⟩:=hd 5 _ 100 rfl rfl ⟨⟨5,.data⟩,by simp,rfl,rfl⟩ (by decide);have f1:=(RY.af a 98).trans ea;have f2:=(RY.af a 100).trans eb;have sZ:(j:Int)<3:=by omega
   exact Or.inl ⟨.pointer (some ⟨c,j,none⟩),X,by simp[execOp,go_sem,f1,f2,sZ],zR,c,j,rfl,h1,h2,me.getD j ⟨#[]⟩,by simp[List.getD,List.getElem?_eq_getElem (l:=me) (show j<me.length from hj)],hc j hj⟩
  |7,ho=>
   injection ho with ho;subst ho
   obtain⟨c,j,ea,h1,h2,x,hx,hc⟩:=hd 6 _ 101 rfl rfl ⟨⟨6,.data⟩,by simp,rfl,rfl⟩ (by decide);have f1:=(RY.af a 101).trans ea;exact Or.inl ⟨.string x,X,by simp[execOp,go_sem,f1,hc],zR,x,hx,rfl⟩
  |8,ho=>
   injection ho with ho;subst ho
   have e96:a.tmps[96]?.getD undef=_:=(RY.af a 96).trans (hd 1 _ 96 rfl rfl ⟨⟨1,.data⟩,by simp,rfl,rfl⟩ (by decide));have e97:a.tmps[97]?.getD undef=_:=(RY.af a 97).trans (hd 2 _ 97 rfl rfl ⟨⟨2,.data⟩,by simp,rfl,rfl⟩ (by decide));exact Or.inl ⟨.pointer (some ⟨lp,lq+n*2,none⟩),X,by simp[execOp,go_sem,e96,e97,Gs,BR],zR,rfl⟩
  |9,ho=>
   injection ho with ho;subst ho
   have e103:a.tmps[103]?.getD undef=_:=(RY.af a 103).trans (hd 8 _ 103 rfl rfl ⟨⟨8,.data⟩,by simp,rfl,rfl⟩ (by decide));exact Or.inl ⟨.pointer (some ⟨lp,lq+n*2,none⟩),X,by simp[execOp,go_sem,e103],zR,rfl⟩
  |n+10,ho=>omega
 ·intro a X vals pp hX hR tb hk hV hd;obtain⟨x,hx,e102⟩:=hV 7 (by decide);have f102:=(RY.af a 102).trans ((hd 7 _ 102 rfl rfl ⟨⟨7,.data⟩,by simp,rfl,rfl⟩ (by decide)).trans e102);have f104:=(RY.af a 104).trans ((hd 9 _ 104 rfl rfl ⟨⟨9,.data⟩,by simp,rfl,rfl⟩ (by decide)).trans (hV 9 (by decide)));have Bj:=HX.out.step hX HR.out.1 hR (by have:=HP.out.ord;omega);obtain⟨Gk,rk,nk,hG,hh⟩:=Bj.hole;obtain⟨p2,o2,u,m,aw,cw,F2,e2,mT,ho,Bv,hg,_,_,_⟩:=dU rk HNL.out;injection e2 with e2
  injection e2 with e3 e4 _
  subst e3;subst e4;have Il:=ho.frozen;have hz:=ho.lt;have uM:=aF hg 0 _ rfl;refine⟨X.setCell ⟨lp,lq+n*2,none⟩ (.string x), ?_,x,X,pp,AF x hx,hX,hR,by omega,rfl⟩;simp at uM;simp[execOp,go_sem,f104,f102,uM,Il]
 ·rintro vals vs X Ly bd;simp only[RY.aE,Act.put,List.setIfInBounds_toArray,List.set_cons_zero,List.set_cons_succ];generalize vs 95=s95,vs 96=s96,vs 97=s97,vs 98=s98,vs 99=s99,vs 100=s100,vs 101=s101,vs 102=s102,vs 103=s103,vs 104=s104;clear bd;obtain⟨t,X1,q',ht,oF,lg,Ce,fj⟩:=Ly;subst fj;obtain⟨W3,fj⟩:∃ W3,W3=X1.setCell ⟨lp,lq+n*2,none⟩ (.string t):=⟨_,rfl⟩
  rw[← fj];have Hk:=HX.out.step oF HR.out.1 lg (by have:=HP.out.ord;omega);obtain⟨Gk,rk,nk,hG,hh⟩:=Hk.hole;obtain⟨p2,o2,u,m,aw,cw,F2,e2,mT,ho,Bv,hg,_,_,_⟩:=dU rk HNL.out;injection e2 with e2
  injection e2 with e3 e4 _
  subst e3;subst e4;have eD:=HNL.out;have uM:=aF hg 0 _ rfl;rw[Nat.add_zero]at uM;have hb:=hG lp mT;obtain⟨s',h9,JY,Kq⟩:=yK (HP.out.step oF) Hk HN.out.1 HN.out.2.2 HB.out (B:=lp) (O:=lq+n*2) ⟨hb.1,hb.2.2,hb.2.1⟩ ho (by omega) uM ht W3 fj;have je:=uh h9;have jd:=uh JY;have jk:=uh Kq;have hm:Marks (fun b=>b=lp) X1 W3:=by rw[fj];exact Marks.sc (S:=fun b=>b=lp) X1 rfl _ _
  have g9:Hid (Rd W3 R v len q'∧q'≤p+1000000):=⟨lg.mks hm (fun c e=>by have:c=lp:=e;have:=HP.out.ord;omega),by have:=HR.out.2;omega⟩
  clear h9 JY Kq hm hb fj Hk rk nk hG hh oF lg Ce ht ho uM;go_wp2;exact dA W0 _ R v len p _ B0 Q BX lo xp xo xc k s.length _ _ _ _ _ lc je jd jk g9 _ _ _ _ _ _ _ _ _ _ _ _ _ _ _ _ _ _ _ _ _ _ _ _ _ _ _ _ _ _ _ _ _ _ _ _ _ _ _ _ _ _ _ _ _ _ _ _ _ _ _ _ _ _ _ _ _ _ _ _ _ _ _ _ _ _ _ _ _ _ _ _ _ _ _ _ _ _ _ _ _ _ _ _ _ _ _ _ _ _ _ _ _ _ _ _ _ _ _ _ _ _ _ _ _ _ _ _ _ _ _ _ _ _ _ _ _ _ _ _ _ _ _ _ _ _ _ _ _ _ _ _ _ _ _ _ _ _ _ _ _ _ _ _ _ _ _ _ _ _ _ _ _ _ _ _ _ _ _ _ _ _ _ _ _ _ _ _ _ _ _ _ _ _ _ _ _ _ _ _ _ _ _ _ _ _ _ _ _ _ _ _ _ _
end Go.Proofs.Ytmgibmmpopoboaa
