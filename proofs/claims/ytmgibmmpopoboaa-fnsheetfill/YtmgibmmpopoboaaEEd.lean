import Derived.Test.YtmgibmmpopoboaaEEa
namespace Go.Proofs.Ytmgibmmpopoboaa
set_option maxRecDepth 8000
set_option maxHeartbeats 40000000
open Go.RowKit Go.Deep
theorem Co:gH 2:=by
 intro W0 W b R v len p q B0 Q BX lo xp xo xc k n s la lc HP HX HN HB HR K hK u1 u2 u3 u9 u10 u11 u12 u13 u14 u15 u16 u17 u18 u19 u20 u21 u22 u23 u24 u25 u26 u27 u28 u29 u30 u31 u32 u33 u34 u35 u36 u37 u39 u40 u41 u42 u43 u44 u45 u46 u47 u48 u49 u50 u51 u52 u53 u54 u55 u56 u57 u58 u59 u60 u61 u62 u63 u64 u65 u66 u67 u68 u69 u70 u71 u72 u73 u74 u75 u76 u77 u78 u79 u80 u81 u82 u83 u84 u85 u86 u87 u88 u89 u90 u91 u92 u93 u94 u95 u96 u97 u98 u99 u100 u101 u102 u103 u104 u105 u106 u107 u108 u109 u110 u111 u112 u113 u114 u115 u116 u117 u118 u119 u120 u121 u122 u123 u124 u125 u126 u127 u128 u129 u130 u131 u132 u133 u134 u135 u136 u137 u138 u139 u140 u141 u142 u143 u144 u145 u146 u147 u148 u149 u150 u151 u152 u153 u154 u155 u156 u157 u158 u159 u160 u161 u162 u163 u164 u165 u166 u167 u168 u169 u170 u171 u172 u173 u174 u175 u176 u177 u178 u179 u180 u181 u182 u183 u184 u185 u186 u187 u188 u189 u190 u191 u192 u193 u194 u195 u196 u197 u198;have vT:=uh (HB.out.one (HX.out.mem HN.out.1));have HO:=uh HP.out.ord;obtain⟨F,r,nd,hF⟩:=HX.out.rep;obtain⟨Gk,rk,nk,hG,hh⟩:=HX.out.hole;obtain⟨G0,yg⟩:=kU r (by have:=HN.out.1;omega);have Jf:∀ p G,F=p::G→p=xp∧p ∉ G:=fun p G e=>by
  rw[yg]at e nd;injection e with e1 e2
  subst e1;subst e2;exact⟨rfl,(List.nodup_cons.1 nd).1⟩
 obtain⟨W1,gq⟩:∃ W1,W1=W.alloc (.cells #[.string b.kind,.string b.name,.slice la b.lines.length lc] 32):=⟨_,rfl⟩
 have bZ:Bel W W1:=by rw[gq];exact ah zR _
 have hrb:Rep W1 false ar (Gk++[]) (blD b) [.string b.kind,.string b.name,.slice la b.lines.length lc]:=bB b.kind b.name (rk.ae bZ);obtain⟨v',W2,F4,row,cg,rep,nd4,eS,cN,dw,_⟩:=kC (P:=Try.prog) 23 23 32 3 56 _ Try.bY Try.ff rfl (by decide) ar rfl W1 (r.ae bZ) (fun p G e=>(Jf p G e).2) (by have:=HB.out.len;omega) (F':=Gk++[]) (d:=blD b) (c':=[.string b.kind,.string b.name,.slice la b.lines.length lc]) ⟨W.heap.size,0,none⟩ hrb (fun p G e hb=>by rw[List.append_nil]at hb;exact(hG _ hb).2.1 (Jf p G e).1) (by rw[gq];exact iW W #[.string b.kind,.string b.name,.slice la b.lines.length lc] 32);obtain⟨wx,wc,ot⟩:=rep.raw.aP;subst ot;have qV:∀ c,row=some c→c=xp:=fun c e=>by obtain⟨G,hG⟩:=dw c e;exact(Jf c G hG).1
 have lf:=HX.out.lt;have ho:=HO.out;have gO:=uh ((HP.out.ae bZ).grow cN (fun c e=>by have:=qV c e;omega));have eO:Hid (Rd W2 R v len q):=(HR.out.1.ae bZ).grown cN (fun c e=>by have:=qV c e;omega);have oi:Hid (Rep W2 false aJ Gk [aU b.lines] [.slice la b.lines.length lc]):=(rk.ae bZ).grown cN (fun c hc e=>by have:=qV c e;exact(hG c hc).2.1 this);have EL:Hid (∀ c∈F4,lo≤c∧c≠Q∧c≠BX):=fun c hc=>by
  rcases eS c hc with e|e|e
  ·have:=hF c e;omega
  ·rw[List.append_nil]at e;have:=hG c e;omega
  ·have:=bZ.size;rw[gq]at e;simp at e;omega
 rw[gq]at cg;have Gc:Hid (Rep W2 false aV F4 [aW (s++[b])] [.slice wx (s++[b]).length wc]∧∀ p G,F4=p::G→p ∉ G∧p ∉ Gk):=by
  refine⟨?_,fun p G e=>⟨(nd4 p G e).1,fun hk=> ?_⟩⟩;rotate_left
  ·rcases(nd4 p G e).2 with⟨G',e2⟩|e2
   ·exact(hG p hk).2.1 (Jf p G' e2).1
   ·have:=hG p hk;have:=bZ.size;omega
  have e1:(s++[b]).length=s.length+1:=by simp
  have e:aW (s++[b])=.row (s.length+1) (s.flatMap blD++blD b):=by unfold aW;rw[List.flatMap_append,List.flatMap_singleton,e1]
  rw[e,e1];exact rep
 have GO:=uh hG;have uM:=HP.out.box.get 0 _ rfl;have Lv:=HP.out.box.own.lt;have gh:=HP.out.bbx.at_;have gM:=HP.out.bbx.own.lt;have Il:=gO.out.box.own.frozen;have jT:=gO.out.box.own.lt;have hy0:=gO.out.box.get 0 _ rfl;clear rep nd4 eS cN dw qV hrb bZ gq hF yg nd r rk nk hG hh Jf lf ho;simp only[sw,sk6,sk5,sk4,sk3,sk2,sk1,sk0,Try.f43,Option.getD_some,sfst_seq,ssnd_seq];go_wp2_with (first|(refine wpList_load_mid rfl 32 _ rfl BX 0 rfl [.string b.kind,.string b.name,.slice la b.lines.length lc] _ gh Try.underlying32 rfl (by kernel_rfl) ?_)|(at_builtin;refine Go.Lib.wpList_append_run _ rfl _ _ 23 23 rfl _ _ rfl rfl _ W2 cg ?_))
 clear uM Lv gh gM Il jT hy0 cg;obtain⟨W3,fj⟩:∃ W3,W3=W2.setCell ⟨Q,0,none⟩ (.slice wx (s.length+1) wc):=⟨_,rfl⟩
 rw[← fj];have hm:Marks (fun b=>b=Q) W2 W3:=by rw[fj];exact Marks.sc (S:=fun b=>b=Q) W2 rfl _ _
 have K8:=HO.out;have xW:aK W3 Q 25 [.slice wx (s.length+1) wc]:=by rw[fj];exact gO.out.box.set 0 _ (by simp)
 have HP3:=gO.out.Eh hm xW;have kf:=Gc.out.1.aY hm (fun c hc e=>(EL.out c hc).2.1 e);obtain⟨p9,o9,uK⟩:∃ p o,wx=some ⟨p,o,none⟩:=by
  rcases kf.slice with⟨_,h0,_⟩|⟨p,o,c,u,m,G,hv,_⟩
  ·simp at h0
  ·injection hv with hv _ _;exact⟨p,o,hv⟩
 subst uK;obtain⟨JS,jg,my⟩:=sC kf (fun p G e=>(Gc.out.2 p G e).1) (fun c hc=>(EL.out c hc).1) (by simp);have hl4:(s++[b]).length=s.length+1:=by simp
 have qL:k<(s++[b]).length:=by have:=HN.out.1;omega
 obtain⟨G9,ib⟩:=kU kf (by simp);have h9:=EL.out p9 (by rw[ib];simp);have MY:p9 ∉ Gk:=(Gc.out.2 p9 G9 ib).2;have jS:=hm.size;have hrk:=oi.out.aY hm (fun c hc e=>by have:c=Q:=e;have:=GO.out c hc;omega);have Bp:=JS.put qL b (N:=W3.heap.size) ⟨Gk,hrk,fun c hc=>Or.inl ⟨⟨(GO.out c hc).1,fun e=>MY (e ▸ hc)⟩,hrk.lt c hc⟩⟩ (kf.lt p9 (by rw[ib];simp));have je:=uh HP3;have jd:Hid (cv (W3.setCells p9 (o9+k*3) [.string b.kind,.string b.name,.slice la b.lines.length lc]) p9 o9 lo ((s++[b]).set k b)∧Sw ((s++[b]).set k b)):=by
  refine⟨Bp,⟨by rw[List.length_set];have:=HB.out.len;omega, ?_⟩⟩;have h1:=mI (s++[b]) k b;have h2:=sr s b;have h3:=HB.out.wsh;have h4:=vT.out.1;omega
 have jk:Hid (((s++[b]).set k b).length=s.length+1∧(s.length+1≤maxLen∧s.length+1≤wc)∧k<s.length+1∧p9≠Q∧p9≠BX∧lo≤p9∧W3.there p9 (o9+k*3) 3):=⟨by rw[List.length_set];exact hl4,by omega,by omega,h9.2.1,h9.2.2,h9.1,JS.there qL⟩
 have g9:Hid (Rd W3 R v len q∧q≤p+1000000):=⟨eO.out.mks hm (fun c e=>by have:c=Q:=e;omega),by have:=HR.out.2;omega⟩
 exact dA W0 _ R v len p _ B0 Q BX lo p9 o9 wc k (s.length+1) _ _ _ la _ lc je jd jk g9 _ _ _ _ _ _ _ _ _ _ _ _ _ _ _ _ _ _ _ _ _ _ _ _ _ _ _ _ _ _ _ _ _ _ _ _ _ _ _ _ _ _ _ _ _ _ _ _ _ _ _ _ _ _ _ _ _ _ _ _ _ _ _ _ _ _ _ _ _ _ _ _ _ _ _ _ _ _ _ _ _ _ _ _ _ _ _ _ _ _ _ _ _ _ _ _ _ _ _ _ _ _ _ _ _ _ _ _ _ _ _ _ _ _ _ _ _ _ _ _ _ _ _ _ _ _ _ _ _ _ _ _ _ _ _ _ _ _ _ _ _ _ _ _ _ _ _ _ _ _ _ _ _ _ _ _ _ _ _ _ _ _ _ _ _ _ _ _ _ _ _ _ _ _ _ _ _ _ _ _ _ _ _ _ _ _ _ _ _ _ _ _ _ _
end Go.Proofs.Ytmgibmmpopoboaa
