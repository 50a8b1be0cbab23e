import Derived.Test.YtmgibmmpopoboaaEEa
namespace Go.Proofs.Ytmgibmmpopoboaa
set_option maxRecDepth 8000
set_option maxHeartbeats 40000000
open Go.RowKit Go.Deep
theorem yE {W:World} {p:Nat} {t:ByteArray} (h:aK W p 9 [.string t]):Rep W false [.row 9 [.s]] [p] [.row 1 (txD [t])] [.slice (some ⟨p,0,none⟩) 1 1]:=
 Rep.row 9 [.s] p 0 1 1 9 1 [.string t] [.s t] [] h.own (by simp) (by simp) ⟨by decide,by omega⟩ h.at_ (.s t .nil) .nil
theorem wT (X:World) (B:Nat) (c:UInt8) (h:X.cell? ⟨B,0,none⟩=some (.int .u8 (c.toNat:Int))):(convert 22 9 (.slice (some ⟨B,0,none⟩) 1 1)).run Try.prog X=.ok (.string ⟨#[c]⟩) X:=by
 refine run_convert_bytes_back (P:=Try.prog) X 22 9 5 ⟨B,0,none⟩ 1 [c] Try.l5 (by kernel_rfl) (by kernel_rfl) fun j hj=> ?_;have:j=0:=by simp at hj;omega
 subst this;exact h
theorem tN (i:Nat) (h:i<100):∃ c:UInt8,(c.toNat:Int)=97+(i:Int):=⟨UInt8.ofNat (97+i),by rw[UInt8.toNat_ofNat'];omega⟩
theorem nH (z:Int) (h0:0≤z) (h1:z<256):IntKind.u8.wrap z=z:=by simp[IntKind.wrap,IntKind.bits,IntKind.signed];omega
theorem CY:gH 7:=by
 intro W0 W b R v len p q B0 Q BX lo xp xo xc k n s la lc HP HX HN HB HR K hK u1 u2 u3 u9 u10 u11 u12 u13 u14 u15 u16 u17 u18 u19 u20 u21 u22 u23 u24 u25 u26 u27 u28 u29 u30 u31 u32 u33 u34 u35 u36 u37 u39 u40 u41 u42 u43 u44 u45 u46 u47 u48 u49 u50 u51 u52 u53 u54 u55 u56 u57 u58 u59 u60 u61 u62 u63 u64 u65 u66 u67 u68 u69 u70 u71 u72 u73 u74 u75 u76 u77 u78 u79 u80 u81 u82 u83 u84 u85 u86 u87 u88 u89 u90 u91 u92 u93 u94 u95 u96 u97 u98 u99 u100 u101 u102 u103 u104 u105 u106 u107 u108 u109 u110 u111 u112 u113 u114 u115 u116 u117 u118 u119 u120 u121 u122 u123 u124 u125 u126 u127 u128 u129 u130 u131 u132 u133 u134 u135 u136 u137 u138 u139 u140 u141 u142 u143 u144 u145 u146 u147 u148 u149 u150 u151 u152 u153 u154 u155 u156 u157 u158 u159 u160 u161 u162 u163 u164 u165 u166 u167 u168 u169 u170 u171 u172 u173 u174 u175 u176 u177 u178 u179 u180 u181 u182 u183 u184 u185 u186 u187 u188 u189 u190 u191 u192 u193 u194 u195 u196 u197 u198;obtain⟨W1,gq⟩:∃ W1,W1=W.setCells BX 0 [.string {data:=#[98,101,114,116,104]},.string b.name,.slice none 0 0]:=⟨_,rfl⟩
 have vR:=HP.out.ord;have bN:=HX.out.lt;have HO:Hid (R<lo∧lo≤Q∧Q<BX∧xp<Q):=⟨by omega,by omega,by omega,by omega⟩
 have xN:Marks (fun c=>c=BX) W W1:=by rw[gq];exact aN (S:=fun c=>c=BX) rfl _ _ _
 have ki:Hid (SP W0 W1 R B0 Q BX lo (.slice (some ⟨xp,xo,none⟩) s.length xc) {data:=#[98,101,114,116,104]} b.name (.slice none 0 0)):=by show SP _ _ _ _ _ _ _ _ _ _ _;rw[gq];exact HP.out.Lj
 have kk:=uh (HX.out.aY xN (fun c e=>by have:c=BX:=e;omega));have gP:=uh (HR.out.1.mks xN (fun c e=>by have:c=BX:=e;omega));have bG:W.there BX 0 (#[.string {data:=#[98,101,114,116,104]},.string b.name,.slice none 0 0]:Array Value).size:=aR HP.out.bbx.own _ _ (by simp);have b1:=HP.out.bbx.get 1 _ rfl;have bl:=HP.out.bbx.own.lt;have tm:=uh (bp R v len q 2 W1 gP.out (by have:=HR.out.2;omega) (by omega));clear vR bN xN;simp only[sw,sk6,sk5,sk4,sk3,sk2,sk1,sk0,Try.f43,Option.getD_some,sfst_seq,ssnd_seq];go_upto_region 34 with(refine wpList_store_mid rfl 32 _ _ rfl BX 0 #[.string {data:=#[98,101,114,116,104]},.string b.name,.slice none 0 0] rfl rfl bG (by kernel_rfl) (by simp[Value.oneCell']) ?_)
 first|rw[← gq]|(simp only[List.toList_toArray];rw[← gq])
 clear bG b1 bl gq;go_wp2_with fail
 refine tm.out.mono ?_;rintro e W2 ⟨⟨rm,rfl,ia⟩,eM,eL⟩;obtain⟨r,rfl,hr⟩:=ia.nat;have kh:r<2:=by have:=hr (by omega);omega
 have gO:=uh (ki.out.step eM);have pS:=uh (kk.out.step eM gP.out eL HO.out.1);have eO:=uh eL;obtain⟨m,hm⟩:∃ m,m=10+r:=⟨_,rfl⟩
 have hmw:IntKind.i64.wrap (10+(r:Int))=(m:Int):=by rw[wrap_small _ (by omega) (by omega)];omega
 have HM:Hid (m≤11):=by show m≤11;omega
 clear ia hr eM eL tm ki kk gP hm kh;go_upto_region 35 with fail
 clear hmw;go_wp2;go_loopw [11] (fun vi wr=>∃ (i:Nat) (ls:List Pl.Ln) (F:List Nat) (la':Option Addr) (lc':Nat),i≤m∧vi=.int .i64 (i:Int)∧SP W0 wr R B0 Q BX lo (.slice (some ⟨xp,xo,none⟩) s.length xc) {data:=#[98,101,114,116,104]} b.name (.slice la' i lc')∧SX wr lo Q BX xp xo xc s k b la lc∧(Rep wr false aJ F [aU ls] [.slice la' i lc']∧(∀ p G,F=p::G→p ∉ G)∧∀ c∈F,BX<c)∧(ls.length=i∧(ls.map fun x=>Pl.wln x+1).sum≤i*20)∧Rd wr R v len (q+1)) (fun vi _=>m - (intOf vi).toNat)
 case atStart=>
  exact⟨0,[],[],none,0,by omega,rfl,gO.out,pS.out,⟨Rep.emp _ _ none rfl .nil,by simp,by simp⟩,⟨rfl,by simp⟩,eO.out⟩
 case round=>
  obtain⟨i,ls,F,la',lc',him,rfl,hp,hx,hd,hl,hr⟩:=hrel;have Cg:=uh hp;have K3:=uh hx;have HD:=uh hd;have HL:=uh hl;have GN:=uh hr;have ec:=HM.out;clear hp hx hd hl hr gO pS eO;by_cases hi:i<m
  rotate_left
  ·have Mz:¬ ((i:Int)<(m:Int)):=by omega
   go_wp2;have him2:i=m:=by omega
   have vR:=HO.out;have hz:Pl.wbl ⟨{data:=#[98,101,114,116,104]},b.name,ls⟩≤300000:=by
    have h1:=(HB.out.one (HX.out.mem HN.out.1)).2.2;have h2:=HL.out.2;show ({data:=#[98,101,114,116,104]}:ByteArray).size+b.name.size+(ls.map fun x=>Pl.wln x+1).sum≤300000;have h3:({data:=#[98,101,114,116,104]}:ByteArray).size=5:=rfl;have h4:i*20≤11*20:=Nat.mul_le_mul_right _ (by omega);omega
   have dw:=K3.out.row HN.out.1;have dc:=K3.out.lt;have Bp:=dw.put HN.out.1 ⟨{data:=#[98,101,114,116,104]},b.name,ls⟩ (N:=wr.heap.size) (lv:=.slice la' i lc') ⟨F,HD.out.1,fun c hc=>Or.inl ⟨⟨by have:=HD.out.2.2 c hc;omega,by have:=HD.out.2.2 c hc;omega⟩,HD.out.1.lt c hc⟩⟩ (by omega);have je:=Cg;have jd:Hid (cv (wr.setCells xp (xo+k*3) [.string {data:=#[98,101,114,116,104]},.string b.name,.slice la' i lc']) xp xo lo (s.set k ⟨{data:=#[98,101,114,116,104]},b.name,ls⟩)∧Sw (s.set k ⟨{data:=#[98,101,114,116,104]},b.name,ls⟩)):=⟨Bp,HB.out.set k _ hz⟩
   have jk:Hid ((s.set k ⟨{data:=#[98,101,114,116,104]},b.name,ls⟩).length=s.length∧(s.length≤maxLen∧s.length≤xc)∧k<s.length∧xp≠Q∧xp≠BX∧lo≤xp∧wr.there xp (xo+k*3) 3):=⟨by rw[List.length_set],HN.out.2.2,HN.out.1,by omega,by omega,dc.1,dw.there HN.out.1⟩
   have g9:Hid (Rd wr R v len (q+1)∧q+1≤p+1000000):=⟨GN.out,by have:=HR.out.2;omega⟩
   exact dA W0 _ R v len p _ B0 Q BX lo xp xo xc k s.length _ _ _ _ _ _ je jd jk g9 _ _ _ _ _ _ _ _ _ _ _ _ _ _ _ _ _ _ _ _ _ _ _ _ _ _ _ _ _ _ _ _ _ _ _ _ _ _ _ _ _ _ _ _ _ _ _ _ _ _ _ _ _ _ _ _ _ _ _ _ _ _ _ _ _ _ _ _ _ _ _ _ _ _ _ _ _ _ _ _ _ _ _ _ _ _ _ _ _ _ _ _ _ _ _ _ _ _ _ _ _ _ _ _ _ _ _ _ _ _ _ _ _ _ _ _ _ _ _ _ _ _ _ _ _ _ _ _ _ _ _ _ _ _ _ _ _ _ _ _ _ _ _ _ _ _ _ _ _ _ _ _ _ _ _ _ _ _ _ _ _ _ _ _ _ _ _ _ _ _ _ _ _ _ _ _ _ _ _ _ _ _ _ _ _ _ _ _ _ _ _ _ _ _
  have Kr:((i:Int)<(m:Int)):=by omega
  obtain⟨c,hc⟩:=tN i (by omega);have e3:IntKind.i64.wrap (97+(i:Int))=97+(i:Int):=wrap_small _ (by omega) (by omega);have e4:IntKind.u8.wrap (97+(i:Int))=97+(i:Int):=nH _ (by omega) (by omega);have hcv:=wT (wr.alloc (.cells #[.int .u8 (97+(i:Int))] 5)) wr.heap.size c (by rw[hc];simp);have b2:=Cg.out.bbx.get 2 _ rfl;have bl:=Cg.out.bbx.own.lt;obtain⟨W2,pV⟩:∃ W2,W2=(wr.alloc (.cells #[.int .u8 (97+(i:Int))] 5)).alloc (.cells #[.string ({data:=#[109]}++{data:=#[c]})] 9):=⟨_,rfl⟩
  have jT:W2.heap.size=wr.heap.size+1+1:=by rw[pV];simp
  have dP:Bel wr W2:=by rw[pV];exact ah (ah zR _) _
  have tC:aK W2 (wr.heap.size+1) 9 [.string ({data:=#[109]}++{data:=#[c]})]:=by rw[pV];exact aK.new (wr.alloc (.cells #[.int .u8 (97+(i:Int))] 5)) _ _ _ (by simp)
  obtain⟨W3,fj⟩:∃ W3,W3=W2.alloc (.cells #[.string {data:=#[109,97,114,107]},.slice (some ⟨wr.heap.size+1,0,none⟩) 1 1] 53):=⟨_,rfl⟩
  have xV:Bel W2 W3:=by rw[fj];exact ah zR _
  have eV:Bel wr W3:=by rw[fj];exact ah dP _
  have j8:=iW W2 #[.string {data:=#[109,97,114,107]},.slice (some ⟨wr.heap.size+1,0,none⟩) 1 1] 53;rw[jT,← fj]at j8;have fy:Rep W3 false au ([wr.heap.size+1]++[]) (lnD ⟨{data:=#[109,97,114,107]},[({data:=#[109]}++{data:=#[c]})]⟩) [.string {data:=#[109,97,114,107]},.slice (some ⟨wr.heap.size+1,0,none⟩) 1 1]:=cS {data:=#[109,97,114,107]} (yE (tC.ae xV));obtain⟨v',X,F4,row,cg,rep,nd4,eS,cN,dw,jV⟩:=kC (P:=Try.prog) 30 30 53 2 40 _ Try.bW Try.ey rfl (by decide) au rfl W3 (n:=i) (by have:=HD.out.1.ae eV;unfold aU at this;rw[HL.out.1]at this;exact this) HD.out.2.1 (by omega) (F':=[wr.heap.size+1]++[]) (d:=lnD ⟨{data:=#[109,97,114,107]},[({data:=#[109]}++{data:=#[c]})]⟩) (c':=[.string {data:=#[109,97,114,107]},.slice (some ⟨wr.heap.size+1,0,none⟩) 1 1]) ⟨wr.heap.size+1+1,0,none⟩ fy (fun p G e hb=>by have h1:=HD.out.1.lt p (by rw[e];simp);simp at hb;omega) j8;obtain⟨la2,lc2,fK⟩:=rep.raw.aP;subst fK;have vR:=HO.out;have DG:∀ c,row=some c→BX<c:=fun c e=>by obtain⟨G,hG⟩:=dw c e;exact HD.out.2.2 c (by rw[hG];simp)
  have xS:=(Cg.out.ae eV).grow cN (fun c e=>by have:=DG c e;omega);have Bg:Marks (fun c=>c=BX) X (X.setCell ⟨BX,2,none⟩ (.slice la2 (i+1) lc2)):=Marks.sc (S:=fun c=>c=BX) X rfl _ _;have D4:=uh (xS.CS Bg (xS.bbx.set 2 (.slice la2 (i+1) lc2) (by simp)));have qU:=uh (((K3.out.ae eV).aY jV (fun c e=>Or.inr (by have:=DG c e;omega))).aY Bg (fun c e=>Or.inr (by have:c=BX:=e;omega)));have mv:=uh (((GN.out.ae eV).grown cN (fun c e=>by have:=DG c e;omega)).mks Bg (fun c e=>by have:c=BX:=e;omega));have Bm:∀ c∈F4,BX<c:=fun c e=>by
   have h8:=Cg.out.ord;have h9:=eV.size;rcases eS c e with q|q|q
   ·exact HD.out.2.2 c q
   ·simp at q;omega
   ·omega
  have tp:Hid (Rep (X.setCell ⟨BX,2,none⟩ (.slice la2 (i+1) lc2)) false aJ F4 [aU (ls++[(⟨{data:=#[109,97,114,107]},[({data:=#[109]}++{data:=#[c]})]⟩:Pl.Ln)])] [.slice la2 (i+1) lc2]∧(∀ p G,F4=p::G→p ∉ G)∧∀ c∈F4,BX<c):=by
   refine⟨?_,fun p G e=>(nd4 p G e).1,Bm⟩;have e:aU (ls++[(⟨{data:=#[109,97,114,107]},[({data:=#[109]}++{data:=#[c]})]⟩:Pl.Ln)])=.row (i+1) (ls.flatMap lnD++lnD ⟨{data:=#[109,97,114,107]},[({data:=#[109]}++{data:=#[c]})]⟩):=by unfold aU;rw[List.flatMap_append,List.flatMap_singleton,List.length_append,List.length_singleton,HL.out.1]
   rw[e];exact rep.aY Bg (fun c hc e=>by have e:c=BX:=e;have:=Bm c hc;omega)
  have Mo:Hid ((ls++[(⟨{data:=#[109,97,114,107]},[({data:=#[109]}++{data:=#[c]})]⟩:Pl.Ln)]).length=i+1∧((ls++[(⟨{data:=#[109,97,114,107]},[({data:=#[109]}++{data:=#[c]})]⟩:Pl.Ln)]).map fun x=>Pl.wln x+1).sum≤(i+1)*20):=by
   refine⟨by rw[List.length_append,List.length_singleton,HL.out.1], ?_⟩;rw[List.map_append,List.sum_append];have h1:=HL.out.2;have h2:([(⟨{data:=#[109,97,114,107]},[({data:=#[109]}++{data:=#[c]})]⟩:Pl.Ln)].map fun x=>Pl.wln x+1).sum=8:=by simp[Pl.wln];rfl
   rw[h2];omega
  have y2:=xS.bbx.get 2 _ rfl;have yf:=xS.bbx.own.frozen;have yl:=xS.bbx.own.lt;rw[fj,pV]at cg;clear hc tC xV eV dP j8 fy rep nd4 eS cN dw jV vR DG xS Bg Bm fj pV jT Cg K3 HD HL GN;go_wp2_with (at_builtin;refine Go.Lib.wpList_append_run _ rfl _ _ 30 30 rfl _ _ rfl rfl _ X cg ?_)
  go_roundw
  case rel=>exact⟨i+1,_,F4,la2,lc2,by omega,by go_num,D4.out,qU.out,tp.out,Mo.out,mv.out⟩
  case measure=>simp[intOf];omega
theorem Li {q p i pp:Nat} (h:pp≤q+7000*(i+1)) (h2:q≤p+10) (h3:i≤61):pp≤p+1000000:=by
 have h4:7000*(i+1)≤7000*62:=Nat.mul_le_mul_left 7000 (show i+1≤62 by omega);generalize 7000*(i+1)=y at h h4;omega
theorem wY (X:World) (B:Nat) (c d:UInt8) (h0:X.cell? ⟨B,0,none⟩=some (.int .u8 (c.toNat:Int))) (h1:X.cell? ⟨B,1,none⟩=some (.int .u8 (d.toNat:Int))):(convert 22 9 (.slice (some ⟨B,0,none⟩) 2 2)).run Try.prog X=.ok (.string ⟨#[c,d]⟩) X:=by
 refine run_convert_bytes_back (P:=Try.prog) X 22 9 5 ⟨B,0,none⟩ 2 [c,d] Try.l5 (by kernel_rfl) (by kernel_rfl) fun j hj=> ?_;have:j=0∨j=1:=by simp at hj;omega
 rcases this with rfl|rfl
 ·exact h0
 ·exact h1
def VS8 (R:Nat) (Q:Nat) (xa:Option Addr) (n xc:Nat):Nat→Value→World→Prop
 |0,u,_=>u=.pointer (some ⟨Q,0,none⟩)
 |1,u,_=>u=.slice xa n xc
 |2,u,_=>u=.int .i64 (n:Int)
 |3,u,_=>u=.pointer (some ⟨R,0,none⟩)
 |4,u,_=>∃ j:Nat,u=.int .i64 (j:Int)∧j<2
 |5,u,_=>∃ N:Nat,u=.int .i64 (N:Int)∧N≤61
 |6,u,_=>∃ N:Nat,u=.bool (decide ((n:Int)<(N:Int)))∧N≤61
 |_,_,_=>True
theorem yH (R:Nat) (Q:Nat) (xa:Option Addr) (n xc:Nat):∀ j u W W',Fr R W W'→R<W.heap.size→VS8 R Q xa n xc j u W→VS8 R Q xa n xc j u W':=by
 intro j u W W' hb bN h;match j with
 |0=>exact h
 |1=>exact h
 |2=>exact h
 |3=>exact h
 |4=>exact h
 |5=>exact h
 |6=>exact h
 |n+7=>exact trivial
theorem Da:gH 8:=by
 intro W0 W b R v len p q B0 Q BX lo xp xo xc k n s la lc HP HX HN HB HR K hK u1 u2 u3 u9 u10 u11 u12 u13 u14 u15 u16 u17 u18 u19 u20 u21 u22 u23 u24 u25 u26 u27 u28 u29 u30 u31 u32 u33 u34 u35 u36 u37 u39 u40 u41 u42 u43 u44 u45 u46 u47 u48 u49 u50 u51 u52 u53 u54 u55 u56 u57 u58 u59 u60 u61 u62 u63 u64 u65 u66 u67 u68 u69 u70 u71 u72 u73 u74 u75 u76 u77 u78 u79 u80 u81 u82 u83 u84 u85 u86 u87 u88 u89 u90 u91 u92 u93 u94 u95 u96 u97 u98 u99 u100 u101 u102 u103 u104 u105 u106 u107 u108 u109 u110 u111 u112 u113 u114 u115 u116 u117 u118 u119 u120 u121 u122 u123 u124 u125 u126 u127 u128 u129 u130 u131 u132 u133 u134 u135 u136 u137 u138 u139 u140 u141 u142 u143 u144 u145 u146 u147 u148 u149 u150 u151 u152 u153 u154 u155 u156 u157 u158 u159 u160 u161 u162 u163 u164 u165 u166 u167 u168 u169 u170 u171 u172 u173 u174 u175 u176 u177 u178 u179 u180 u181 u182 u183 u184 u185 u186 u187 u188 u189 u190 u191 u192 u193 u194 u195 u196 u197 u198;rw[show ((8:Nat):Int)=(8:Int) from rfl];have vR:=HP.out.ord;have bN:=HX.out.lt;have HO:Hid (R<lo∧lo≤Q∧Q<BX∧xp<Q):=⟨by omega,by omega,by omega,by omega⟩
 obtain⟨F,r,nd,hF⟩:=HX.out.rep;obtain⟨Gk,rk,nk,hG,hh⟩:=HX.out.hole;obtain⟨G0,yg⟩:=kU r (by have:=HN.out.1;omega);have GO:=uh hG;have fF:=uh rk;have HD:Hid (Rep W false aV F [aW s] [.slice (some ⟨xp,xo,none⟩) s.length xc]∧(∀ p G,F=p::G→p ∉ G∧p ∉ Gk)∧∀ c∈F,lo≤c∧c≠Q∧c≠BX):=by
  refine⟨r,fun p G e=> ?_,fun c hc=>by have:=hF c hc;omega⟩;rw[yg]at e nd;injection e with e1 e2
  subst e1;subst e2;exact⟨(List.nodup_cons.1 nd).1,fun hk=>(hG _ hk).2.1 rfl⟩
 clear vR bN r nd hF rk nk hG hh yg;simp only[sw,sk6,sk5,sk4,sk3,sk2,sk1,sk0,Try.f43,Option.getD_some,sfst_seq,ssnd_seq];go_upto_region 8 with fail
 go_wp2;go_loopw [12] (fun vi wr=>∃ (i:Nat) (s1:List Pl.Bl) (F:List Nat) (xa:Option Addr) (xc1 q1:Nat),i≤61∧vi=.int .i64 (i:Int)∧SP W0 wr R B0 Q BX lo (.slice xa s1.length xc1) b.kind b.name (.slice la b.lines.length lc)∧(Rep wr false aV F [aW s1] [.slice xa s1.length xc1]∧(∀ p G,F=p::G→p ∉ G∧p ∉ Gk)∧∀ c∈F,lo≤c∧c≠Q∧c≠BX)∧Rep wr false aJ Gk [aU b.lines] [.slice la b.lines.length lc]∧(s1.length=s.length+i∧(0<i→s1.length≤61)∧Pl.wsh s1≤Pl.wsh s+i*20)∧q1≤q+7000*i∧Rd wr R v len q1) (fun vi _=>61 - (intOf vi).toNat)
 case atStart=>exact⟨0,s,F,_,xc,q,by omega,rfl,HP.out,HD.out,fF.out,⟨rfl,by simp,by omega⟩,by omega,HR.out.1⟩
 case round=>
  obtain⟨i,s1,F,xa,xc1,q1,him,rfl,hp,hd,hg,hl,hq,hr⟩:=hrel;clear HD fF;have Cg:=uh hp;have HD:=uh hd;have fF:=uh hg;have HL:=uh hl;have KV:Hid (q1≤q+7000*i∧i≤61∧q≤p+10∧p≤300000000000):=⟨hq,him,HR.out.2⟩
  have GN:=uh hr;clear hp hd hg hl hq hr;go_upto_region 9 with fail
  refine RY.xu R v len q1 GN.out (VS8 R Q xa s1.length xc1) (yH R _ _ _ _) (by kernel_rfl) (by kernel_rfl) (by kernel_rfl) (by kernel_rfl) ?_ ?_
  ·intro i' o' ho a X pp hX hR tb hk hd;have zb:=Cg.out.box.fr hX (by have:=HO.out;omega);have zc:=zb.get 0 _ rfl;have zl:=zb.own.lt;match i',ho with
   |0,ho=>
    injection ho with ho;subst ho
    have e5:a.tmps[5]?.getD undef=.pointer (some ⟨Q,0,none⟩):=(RY.af a 5).trans ((hk 5 (by kernel_rfl)).trans rfl);exact Or.inl ⟨.pointer (some ⟨Q,0,none⟩),X,by simp[execOp,go_sem,e5],zR,rfl⟩
   |1,ho=>
    injection ho with ho;subst ho
    have e39:a.tmps[39]?.getD undef=_:=(RY.af a 39).trans (hd 0 _ 39 rfl rfl ⟨⟨0,.data⟩,by simp,rfl,rfl⟩);exact Or.inl ⟨.slice xa s1.length xc1,X,by simp[execOp,go_sem,e39,zc],zR,rfl⟩
   |2,ho=>
    injection ho with ho;subst ho
    have e40:a.tmps[40]?.getD undef=_:=(RY.af a 40).trans (hd 1 _ 40 rfl rfl ⟨⟨1,.data⟩,by simp,rfl,rfl⟩);exact Or.inl ⟨.int .i64 (s1.length:Int),X,by simp[go_sem,e40],zR,rfl⟩
   |3,ho=>
    injection ho with ho;subst ho
    have e0:a.tmps[0]?.getD undef=.pointer (some ⟨R,0,none⟩):=(RY.af a 0).trans ((hk 0 (by kernel_rfl)).trans rfl);exact Or.inl ⟨.pointer (some ⟨R,0,none⟩),X,by simp[execOp,go_sem,e0],zR,rfl⟩
   |4,ho=>
    injection ho with ho;subst ho
    have e42:a.tmps[42]?.getD undef=_:=(RY.af a 42).trans (hd 3 _ 42 rfl rfl ⟨⟨3,.data⟩,by simp,rfl,rfl⟩);refine Or.inr ⟨40,#[.pointer (some ⟨R,0,none⟩),.int .i64 2],by simp[go_sem,e42],(bp R v len pp 2 X hR (by simp at tb;have:=KV.out;omega) (by omega)).mono ?_⟩;rintro e W' ⟨⟨r,rfl,hr⟩,hF,xL⟩;obtain⟨j,rfl,hj⟩:=hr.nat;exact⟨_,rfl,hF,⟨pp+1,by omega,xL⟩,j,rfl,by have:=hj (by omega);omega⟩
   |5,ho=>
    injection ho with ho;subst ho
    obtain⟨j,ea,hj⟩:=hd 4 _ 43 rfl rfl ⟨⟨4,.data⟩,by simp,rfl,rfl⟩;have f1:=(RY.af a 43).trans ea;have hw:IntKind.i64.wrap (60+(j:Int))=((60+j:Nat):Int):=by rw[wrap_small _ (by omega) (by omega)];omega
    exact Or.inl ⟨.int .i64 ((60+j:Nat):Int),X,by simp[execOp,go_sem,f1,hw],zR,60+j,rfl,by omega⟩
   |6,ho=>
    injection ho with ho;subst ho
    obtain⟨N,ea,hN⟩:=hd 5 _ 44 rfl rfl ⟨⟨5,.data⟩,by simp,rfl,rfl⟩;have f1:=(RY.af a 44).trans ea;have f2:a.tmps[41]?.getD undef=_:=(RY.af a 41).trans (hd 2 _ 41 rfl rfl ⟨⟨2,.data⟩,by simp,rfl,rfl⟩);exact Or.inl ⟨.bool (decide ((s1.length:Int)<(N:Int))),X,by simp[execOp,go_sem,f1,f2],zR,N,rfl,hN⟩
   |n+7,ho=>simp at ho
  intro X vs pp hX hR tb bd;have q45:=bd 6 _ 45 rfl rfl;simp only[RY.aE,Act.put,List.setIfInBounds_toArray,List.set_cons_zero,List.set_cons_succ];obtain⟨N,e45,hN⟩:=q45;rw[e45];generalize vs 39=mu,vs 40=s40,vs 41=s41,vs 42=s42,vs 43=s43,vs 44=s44;clear bd e45;have Ij:=uh (Cg.out.step hX);have jV:=hX.eJ GN.out hR;have KJ:=HO.out;have uN:Hid (Rep X false aV F [aW s1] [.slice xa s1.length xc1]∧(∀ p G,F=p::G→p ∉ G∧p ∉ Gk)∧∀ c∈F,lo≤c∧c≠Q∧c≠BX):=⟨HD.out.1.aY jV (fun c hc e=>by have e:c=R:=e;have:=HD.out.2.2 c hc;omega),HD.out.2⟩
  have K9:=uh (fF.out.aY jV (fun c hc e=>by have e:c=R:=e;have:=GO.out c hc;omega));have IX:Hid (Rd X R v len pp∧pp≤q+7000*(i+1)):=⟨hR,by simp at tb;have:=KV.out;omega⟩
  have BT:Hid (pp≤p+1000000):=Li IX.out.2 KV.out.2.2.1 KV.out.2.1;clear hX hR tb jV KJ Cg HD fF GN;by_cases bN:s1.length<N
  rotate_left
  ·have BR:¬ ((s1.length:Int)<(N:Int)):=by omega
   go_wp2;have vR:=HO.out;have hl:=HL.out;have s5:=HN.out.1;obtain⟨p9,o9,jH⟩:∃ p o,xa=some ⟨p,o,none⟩:=by
    rcases uN.out.1.slice with⟨_,h0,_⟩|⟨p,o,c,u,m,G,hv,_⟩
    ·omega
    ·injection hv with hv _ _;exact⟨p,o,hv⟩
   subst jH;obtain⟨JS,jg,my⟩:=sC uN.out.1 (fun p G e=>(uN.out.2.1 p G e).1) (fun c hc=>(uN.out.2.2 c hc).1) (by omega);obtain⟨G9,ib⟩:=kU uN.out.1 (by omega);have h9:=uN.out.2.2 p9 (by rw[ib];simp);have MY:=(uN.out.2.1 p9 G9 ib).2;have qL:k<s1.length:=by omega
   have Bp:=JS.put qL b (N:=X.heap.size) ⟨Gk,K9.out,fun c hc=>Or.inl ⟨⟨(GO.out c hc).1,fun e=>MY (e ▸ hc)⟩,K9.out.lt c hc⟩⟩ (uN.out.1.lt p9 (by rw[ib];simp));have je:=Ij;have jd:Hid (cv (X.setCells p9 (o9+k*3) [.string b.kind,.string b.name,.slice la b.lines.length lc]) p9 o9 lo (s1.set k b)∧Sw (s1.set k b)):=by
    refine⟨Bp,⟨?_, ?_⟩⟩
    ·rw[List.length_set];have:=HB.out.len;by_cases eT:i=0
     ·omega
     ·have:=hl.2.1 (by omega);omega
    ·have h1:=mI s1 k b;have h3:=HB.out.wsh;have h4:=(HB.out.one (HX.out.mem s5)).1;have h5:=hl.2.2;have h6:i*20≤61*20:=Nat.mul_le_mul_right _ (by omega);omega
   have jk:Hid ((s1.set k b).length=s1.length∧(s1.length≤maxLen∧s1.length≤xc1)∧k<s1.length∧p9≠Q∧p9≠BX∧lo≤p9∧X.there p9 (o9+k*3) 3):=⟨by rw[List.length_set],⟨jg,my⟩,qL,h9.2.1,h9.2.2,h9.1,JS.there qL⟩
   have g9:Hid (Rd X R v len pp∧pp≤p+1000000):=⟨IX.out.1,BT.out⟩
   exact dA W0 _ R v len p _ B0 Q BX lo p9 o9 xc1 k s1.length _ _ _ la _ lc je jd jk g9 _ _ _ _ _ _ _ _ _ _ _ _ _ _ _ _ _ _ _ _ _ _ _ _ _ _ _ _ _ _ _ _ _ _ _ _ _ _ _ _ _ _ _ _ _ _ _ _ _ _ _ _ _ _ _ _ _ _ _ _ _ _ _ _ _ _ _ _ _ _ _ _ _ _ _ _ _ _ _ _ _ _ _ _ _ _ _ _ _ _ _ _ _ _ _ _ _ _ _ _ _ _ _ _ _ _ _ _ _ _ _ _ _ _ _ _ _ _ _ _ _ _ _ _ _ _ _ _ _ _ _ _ _ _ _ _ _ _ _ _ _ _ _ _ _ _ _ _ _ _ _ _ _ _ _ _ _ _ _ _ _ _ _ _ _ _ _ _ _ _ _ _ _ _ _ _ _ _ _ _ _ _ _ _ _ _ _ _ _ _ _ _ _ _
  have iN:((s1.length:Int)<(N:Int)):=by omega
  have hi61:i<61:=by have:=HL.out;omega
  obtain⟨a1,Ks⟩:∃ a,a=i / 26:=⟨_,rfl⟩
  obtain⟨a2,MK⟩:∃ a,a=i % 26:=⟨_,rfl⟩
  obtain⟨c1,jU⟩:=tN a1 (by omega);obtain⟨c2,kj⟩:=tN a2 (by omega);have e1:IntKind.i64.wrap ((i:Int) / 26)=(a1:Int):=by rw[wrap_small _ (by omega) (by omega)];omega
  have e2:(i:Int).tmod 26=(a2:Int):=by rw[Int.tmod_eq_emod_of_nonneg (by omega)];omega
  have e3:IntKind.i64.wrap (97+(a1:Int))=97+(a1:Int):=wrap_small _ (by omega) (by omega);have e4:IntKind.u8.wrap (97+(a1:Int))=97+(a1:Int):=nH _ (by omega) (by omega);have e5:IntKind.i64.wrap (97+(a2:Int))=97+(a2:Int):=wrap_small _ (by omega) (by omega);have e6:IntKind.u8.wrap (97+(a2:Int))=97+(a2:Int):=nH _ (by omega) (by omega);have hcv:=wY (X.alloc (.cells #[.int .u8 (97+(a1:Int)),.int .u8 (97+(a2:Int))] 5)) X.heap.size c1 c2 (by rw[jU];simp) (by rw[kj];simp);obtain⟨W1,gq⟩:∃ W1,W1=X.alloc (.cells #[.int .u8 (97+(a1:Int)),.int .u8 (97+(a2:Int))] 5):=⟨_,rfl⟩
  have gi:W1.heap.size=X.heap.size+1:=by rw[gq];simp
  have bZ:Bel X W1:=by rw[gq];exact ah zR _
  obtain⟨W3,fj⟩:∃ W3,W3=W1.alloc (.cells #[.string {data:=#[116,101,97,109]},.string ({data:=#[116]}++{data:=#[c1,c2]}),.slice none 0 0] 32):=⟨_,rfl⟩
  have eV:Bel X W3:=by rw[fj];exact ah bZ _
  have hz3:X.heap.size≤W3.heap.size:=eV.size;have j8:=iW W1 #[.string {data:=#[116,101,97,109]},.string ({data:=#[116]}++{data:=#[c1,c2]}),.slice none 0 0] 32;rw[gi,← fj]at j8;have fy:Rep W3 false ar ([]++[]) (blD (⟨{data:=#[116,101,97,109]},({data:=#[116]}++{data:=#[c1,c2]}),[]⟩:Pl.Bl)) [.string {data:=#[116,101,97,109]},.string ({data:=#[116]}++{data:=#[c1,c2]}),.slice none 0 0]:=bB {data:=#[116,101,97,109]} ({data:=#[116]}++{data:=#[c1,c2]}) (Rep.emp _ _ none rfl .nil);obtain⟨v',Y,F4,row,cg,rep,nd4,eS,cN,dw,jV⟩:=kC (P:=Try.prog) 23 23 32 3 56 _ Try.bY Try.ff rfl (by decide) ar rfl W3 (uN.out.1.ae eV) (fun p G e=>(uN.out.2.1 p G e).1) (by have:=HL.out;omega) (F':=[]++[]) (d:=blD (⟨{data:=#[116,101,97,109]},({data:=#[116]}++{data:=#[c1,c2]}),[]⟩:Pl.Bl)) (c':=[.string {data:=#[116,101,97,109]},.string ({data:=#[116]}++{data:=#[c1,c2]}),.slice none 0 0]) ⟨X.heap.size+1,0,none⟩ fy (by simp) j8;obtain⟨xa2,xc2,fK⟩:=rep.raw.aP;subst fK;have vR:=HO.out;have DG:∀ c,row=some c→(lo≤c∧c≠Q∧c≠BX)∧c ∉ Gk:=fun c e=>by obtain⟨G,hG⟩:=dw c e;exact⟨uN.out.2.2 c (by rw[hG];simp),(uN.out.2.1 c G hG).2⟩
  have hxo:=Ij.out.ord;have xS:=(Ij.out.ae eV).grow cN (fun c e=>(DG c e).1);have Bg:Marks (fun c=>c=Q) Y (Y.setCell ⟨Q,0,none⟩ (.slice xa2 (s1.length+1) xc2)):=Marks.sc (S:=fun c=>c=Q) Y rfl _ _;have jg:(s1++[(⟨{data:=#[116,101,97,109]},({data:=#[116]}++{data:=#[c1,c2]}),[]⟩:Pl.Bl)]).length=s1.length+1:=by rw[List.length_append,List.length_singleton]
  have D4:Hid (SP W0 (Y.setCell ⟨Q,0,none⟩ (.slice xa2 (s1.length+1) xc2)) R B0 Q BX lo (.slice xa2 (s1++[(⟨{data:=#[116,101,97,109]},({data:=#[116]}++{data:=#[c1,c2]}),[]⟩:Pl.Bl)]).length xc2) b.kind b.name (.slice la b.lines.length lc)):=by
   show SP _ _ _ _ _ _ _ _ _ _ _;rw[jg];exact xS.Eh Bg (xS.box.set 0 (.slice xa2 (s1.length+1) xc2) (by simp))
  have mv:Hid (pp≤q+7000*(i+1)∧Rd (Y.setCell ⟨Q,0,none⟩ (.slice xa2 (s1.length+1) xc2)) R v len pp):=⟨IX.out.2,((IX.out.1.ae eV).grown cN (fun c e=>by have:=(DG c e).1;omega)).mks Bg (fun c e=>by have:c=Q:=e;omega)⟩
  have HG4:=uh (((K9.out.ae eV).grown cN (fun c hc e=>(DG c e).2 hc)).aY Bg (fun c hc e=>by have e:c=Q:=e;have:=GO.out c hc;omega));have Bm:∀ c∈F4,lo≤c∧c≠Q∧c≠BX:=fun c e=>by
   rcases eS c e with q|q|q
   ·exact uN.out.2.2 c q
   ·simp at q
   ·omega
  have tp:Hid (Rep (Y.setCell ⟨Q,0,none⟩ (.slice xa2 (s1.length+1) xc2)) false aV F4 [aW (s1++[(⟨{data:=#[116,101,97,109]},({data:=#[116]}++{data:=#[c1,c2]}),[]⟩:Pl.Bl)])] [.slice xa2 (s1++[(⟨{data:=#[116,101,97,109]},({data:=#[116]}++{data:=#[c1,c2]}),[]⟩:Pl.Bl)]).length xc2]∧(∀ p G,F4=p::G→p ∉ G∧p ∉ Gk)∧∀ c∈F4,lo≤c∧c≠Q∧c≠BX):=by
   refine⟨?_,fun p G e=>⟨(nd4 p G e).1,fun hk=> ?_⟩,Bm⟩
   ·have e:aW (s1++[(⟨{data:=#[116,101,97,109]},({data:=#[116]}++{data:=#[c1,c2]}),[]⟩:Pl.Bl)])=.row (s1.length+1) (s1.flatMap blD++blD (⟨{data:=#[116,101,97,109]},({data:=#[116]}++{data:=#[c1,c2]}),[]⟩:Pl.Bl)):=by unfold aW;rw[List.flatMap_append,List.flatMap_singleton,jg]
    rw[e,jg];exact rep.aY Bg (fun c hc e=>(Bm c hc).2.1 e)
   ·rcases(nd4 p G e).2 with⟨G',e2⟩|e2
    ·exact(uN.out.2.1 p G' e2).2 hk
    ·have:=GO.out p hk;omega
  have Mo:Hid ((s1++[(⟨{data:=#[116,101,97,109]},({data:=#[116]}++{data:=#[c1,c2]}),[]⟩:Pl.Bl)]).length=s.length+(i+1)∧(0<i+1→(s1++[(⟨{data:=#[116,101,97,109]},({data:=#[116]}++{data:=#[c1,c2]}),[]⟩:Pl.Bl)]).length≤61)∧Pl.wsh (s1++[(⟨{data:=#[116,101,97,109]},({data:=#[116]}++{data:=#[c1,c2]}),[]⟩:Pl.Bl)])≤Pl.wsh s+(i+1)*20):=by
   have h1:=HL.out;refine⟨by rw[jg];omega,fun _=>by rw[jg];omega, ?_⟩;rw[sr];have h2:Pl.wbl (⟨{data:=#[116,101,97,109]},({data:=#[116]}++{data:=#[c1,c2]}),[]⟩:Pl.Bl)=7:=by simp[Pl.wbl];rfl
   rw[h2];omega
  have x0:=Ij.out.box.get 0 _ rfl;have xl:=Ij.out.box.own.lt;have y0:=xS.box.get 0 _ rfl;have yf:=xS.box.own.frozen;have yl:=xS.box.own.lt;rw[fj,gq]at cg;clear jU kj Ks MK bZ eV hz3 j8 fy rep nd4 eS cN dw jV vR DG hxo xS Bg jg Bm fj gq gi Ij uN K9 IX HL bN;go_wp2_with (at_builtin;refine Go.Lib.wpList_append_run _ rfl _ _ 23 23 rfl _ _ rfl rfl _ Y cg ?_)
  go_roundw
  case rel=>exact⟨i+1,_,F4,xa2,xc2,pp,by omega,by go_num,D4.out,tp.out,HG4.out,Mo.out,mv.out⟩
  case measure=>simp[intOf];omega
end Go.Proofs.Ytmgibmmpopoboaa
