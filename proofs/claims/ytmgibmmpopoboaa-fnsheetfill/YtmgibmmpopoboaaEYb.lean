import Derived.Lib.AppendZerosOnto
import Derived.Test.YtmgibmmpopoboaaEGf
import Derived.Test.YtmgibmmpopoboaaEYr
namespace Go.Proofs.Ytmgibmmpopoboaa
set_option maxRecDepth 8000
set_option maxHeartbeats 40000000
open Go.RowKit Go.Deep
theorem uz (ws:List ByteArray) (v:Value) (W:World) (h:Raw W cA [.row ws.length (txD ws)] [v]) (hn:ws.length≤4194304):
  Calls Try.prog 75 #[v] W (fe cA (.row ws.length (txD ws)) W):=by
 obtain⟨v',W',xs,cg,hg,hb⟩:=i6 (P:=Try.prog) W.heap.size 38 38 9 9 1 16 _ Try.fv Try.bI rfl (by decide) (by decide) [.s] rfl (by simp[cO]) W (.slice none 0 0) (Or.inl rfl) zE ws.length (txD ws) v h hn;obtain⟨F,r,nd,fr⟩:=hg.done;have HD:Hid (fe cA (.row ws.length (txD ws)) W (.returned v') W'):=⟨_,F,rfl,r,nd,fr,hb⟩
 obtain⟨va,vc,ev⟩:=h.aP;subst ev;obtain⟨wx,wc,ot⟩:=hg.shape;subst ot;clear h hg r nd fr hb;go_enter Try.func75,Try.ntmps75
 go_wp2_with (at_builtin;refine Go.Lib.wpList_append_run _ rfl _ _ 38 38 rfl _ _ rfl rfl _ W' cg ?_)
 go_ret;exact HD.out
theorem wR (x:Pl.Ln) (va:Option Addr) (vc:Nat) (W:World) (hv:Raw W cA [.row x.ws.length (txD x.ws)] [.slice va x.ws.length vc]) (hn:x.ws.length≤4194304):
  Calls Try.prog 50 #[.agg #[.string x.key,.slice va x.ws.length vc]] W (Ans au (lnD x) W):=by
 obtain⟨b0,bD⟩:∃ b,b=W.heap.size:=⟨_,rfl⟩
 obtain⟨wa,aS⟩:∃ wa,wa=(W.alloc (.cells #[.string x.key,.slice va x.ws.length vc] 53)).alloc (.cells #[.string {data:=#[]},.slice none 0 0] 53):=⟨_,rfl⟩
 have HB:Hid (Bel W wa):=by show Below _ _ _;rw[aS];exact ah (ah zR _) _
 have HX:Hid (aK wa b0 53 [.string x.key,.slice va x.ws.length vc]):=by show aK _ _ _ _;rw[aS,bD];exact(aK.new W [.string x.key,.slice va x.ws.length vc] _ _ rfl).ae (ah zR _)
 have HO:Hid (aL wa (b0+1) 53 2):=by show aL _ _ _ _;rw[aS];exact aL.er _ _ _ _ _ rfl (by simp[bD])
 have ZA:Hid (wa.heap.size=b0+2):=by show _=_;rw[aS];simp[bD]
 have HZ:=uh bD;have HC:=uh (uz x.ws (.slice va x.ws.length vc) wa (hv.ae HB.out) hn);go_enter Try.func50,Try.ntmps50
 go_upto_region 1 with fail
 rw[← aS,← bD];clear aS bD hv hn;have xa:=HX.out.get 1 _ rfl;have xl:=HX.out.own.lt;go_wp2_with fail
 refine HC.out.mono ?_;rintro e w1 ⟨v1,F,rfl,r,nd,fr,hb⟩;obtain⟨wx,wc,ot⟩:=r.raw.aP;subst ot;have HR:=uh (And.intro r (And.intro nd fr));have kk:=HX.out.ae hb;have uF:w1.there b0 1 1:=aR kk.own _ _ (by simp);obtain⟨y,hy⟩:∃ y,y=w1.setCell ⟨b0,1,none⟩ (.slice wx x.ws.length wc):=⟨_,rfl⟩
 have pS:Hid (aK y b0 53 [.string x.key,.slice wx x.ws.length wc]):=by show aK _ _ _ _;rw[hy];exact kk.set 1 _ (by simp)
 have HM:Hid (Marks (fun b=>b=b0) w1 y):=by show Marks _ _ _;rw[hy];exact Marks.sc (S:=fun b=>b=b0) _ rfl _ _
 have fC:=uh (HM.out.own _ _ _ (HO.out.ae hb));have gQ:Hid (Bel W y):=HM.out.below (fun b e=>by rw[e,HZ.out];exact zE) (ai HB.out hb);have HF:Hid (∀ b∈F,b0+2≤b):=fun b hb=>by have:=HR.out.2.2 b hb;have:=ZA.out;omega
 have x1:=kk.get 1 _ rfl;have xf:=kk.own.frozen 1;have xz:=kk.own.lt;clear r nd fr hb xa xl uF;go_upto_region 2 with fail
 rw[← hy];clear hy x1 xf xz kk HC;have lf:=pS.out.own.lt;have jH:=pS.out.at_;have bG:y.there (b0+1) 0 (#[.string x.key,.slice wx x.ws.length wc]:Array Value).size:=aR fC.out _ _ (by simp);obtain⟨we,bj⟩:∃ we,we=y.setCells (b0+1) 0 [.string x.key,.slice wx x.ws.length wc]:=⟨_,rfl⟩
 have dv:we.rangeAt (b0+1) 0 [.string x.key,.slice wx x.ws.length wc]:=by rw[bj];exact World.rangeAt_setCells_same _ _ _ _ bG
 have oB:Hid (Marks (fun b=>b=b0+1) y we):=by show Marks _ _ _;rw[bj];exact aN (S:=fun b=>b=b0+1) rfl _ _ _
 have gR:Hid (Bel W we):=by show Below _ _ _;rw[bj];exact cG (by have:=HZ.out;omega) _ _ _ gQ.out
 go_wp2_with (first|(refine wpList_load_mid rfl 53 _ rfl b0 0 rfl [.string x.key,.slice wx x.ws.length wc] _ jH Try.underlying53 rfl (by kernel_rfl) ?_)|(refine wpList_store_mid rfl 53 _ _ rfl (b0+1) 0 #[.string x.key,.slice wx x.ws.length wc] rfl rfl bG (by kernel_rfl) (by simp[Value.oneCell']) ?_))
 first|rw[← bj]|(simp only[List.toList_toArray];rw[← bj])
 try simp only[Act.put]
 refine bodyPost_ret (v:=.agg #[.string x.key,.slice wx x.ws.length wc]) (by simp[results,Try.results50,asAddr,run_loadVar_mid (P:=Try.prog) _ _ _ 53 [.string x.key,.slice wx x.ws.length wc] _ dv Try.underlying53 rfl (by kernel_rfl)]) rfl ?_;have M1:=HR.out.1.aY HM.out (fun b hb e=>by have:=HF.out b hb;omega);have M2:=M1.aY oB.out (fun b hb e=>by have:=HF.out b hb;omega);refine⟨[.string x.key,.slice wx x.ws.length wc],F++[],rfl,cS _ M2,by rw[List.append_nil];exact HR.out.2.1,fun b hb=>by rw[List.append_nil]at hb;have:=HF.out b hb;have:=HZ.out;omega,gR.out⟩
theorem oN (n:Nat) (W:World) (hn:n≤4194304):Calls Try.prog 74 #[.slice none 0 0,.int .i64 n] W (fe aJ (.row 0 []) W):=by
 have h1:¬ ((n:Int)<0):=by omega
 by_cases h0:n=0
 ·subst h0;go_enter Try.func74,Try.ntmps74
  go_wp2;go_ret;exact⟨_,[],rfl,.emp _ _ _ rfl .nil,List.nodup_nil,by simp,zR⟩
 obtain⟨i0,eT,hz,hs,fQ⟩:=iZ Try.ey;have ye:∀ ty,(Builtin.append_ #[30,3] ty #[.slice none 0 0,.int .i64 (n:Int)]).run Try.prog W=.ok (.slice (some ⟨W.heap.size,0,none⟩) n (grownCap W n 0 53)) (W.drew.alloc (.cells ((#[]:Array Value)++Builtin.zeroCells #[.string {data:=#[]},.slice none 0 0] n++Builtin.zeroCells #[.string {data:=#[]},.slice none 0 0] (grownCap W n 0 53 - n)) 53)):=fun ty=>by
  have:=Lib.run_append_grow_zeros (P:=Try.prog) W 30 3 ty 53 i0 _ .i64 .i64 Try.bW Try.underlying3 eT hz none 0 0 [] (run_firstCells_none W.drew i0.size 0 0 0) n (by omega) (by rw[hs];decide) (by omega) (by omega) (by rw[fQ];omega) (growslice_fits (by omega) (by rw[fQ];omega));rw[Nat.zero_add]at this;exact this
 have DL:n≤grownCap W n 0 53:=grownCap_ge W _ _ _;have oY:=grownCap_le_maxLen W n 0 53 (by unfold maxLen;omega);obtain⟨G,hG⟩:∃ G,G=grownCap W n 0 53:=⟨_,rfl⟩
 rw[← hG]at ye DL oY;obtain⟨cur,lV⟩:∃ cur,cur=(#[]:Array Value)++Builtin.zeroCells #[.string {data:=#[]},.slice none 0 0] n++Builtin.zeroCells #[.string {data:=#[]},.slice none 0 0] (G - n):=⟨_,rfl⟩
 have mE:cur.size=G*2:=by rw[lV,Array.size_append,Array.size_append,size_zeroCells,size_zeroCells];simp;omega
 rw[← lV]at ye;clear lV hG;obtain⟨w1,vQ⟩:∃ w1,w1=W.drew.alloc (.cells cur 53):=⟨_,rfl⟩
 have HB:Hid (Bel W w1):=by show Below _ _ _;rw[vQ];exact ah (Below.drew zR) _
 have HO:Hid (aL w1 W.heap.size 53 (G*2)):=by show aL _ _ _ _;rw[vQ];exact⟨cur,heap_alloc_new W.drew _,mE⟩
 rw[← vQ]at ye;unfold maxLen at oY;have hg0:(0:Int)<(n:Int):=by omega
 clear vQ mE;go_enter Try.func74,Try.ntmps74
 go_wp2_with (at_builtin;refine Lib.wpList_append_run _ rfl _ _ 30 3 rfl _ _ rfl rfl _ w1 (ye _) ?_)
 all_goals (go_ret;exact⟨_,[W.heap.size],rfl,.row _ _ W.heap.size 0 0 G 53 (G*2) [] [] [] HO.out (by simp) (by simp) ⟨by omega,by omega⟩ (ze _ _ _) .nil .nil,by simp,by simp,HB.out⟩)
theorem nM (l:List Pl.Ln) (v:Value) (W:World) (h:Raw W aJ [aU l] [v]) (hl:l.length≤4194304) (hw:∀ x∈l,x.ws.length≤4194304):
  Calls Try.prog 46 #[v,.func (.func 50) #[] #[]] W (fe aJ (aU l) W):=by
 have HL:=uh h;have D3:=uh hw;obtain⟨va,vc,ev⟩:=h.aP;subst ev;clear h hw;obtain⟨n,hn⟩:∃ n,n=l.length:=⟨_,rfl⟩
 have HN:=uh hn;have eD:l.length=n:=hn.symm;clear hn;rw[eD]at hl ⊢;clear eD;go_enter Try.func46,Try.ntmps46
 go_wp2_with fail
 refine(oN n W hl).mono ?_;rintro e w0 ⟨v,F,rfl,r,nd,fr,hb⟩;obtain⟨va1,vc1,lT⟩:=r.raw.aP;subst lT;have HR:=uh r;have Gi:=uh (And.intro nd fr);have HB:=uh hb;clear r nd fr hb;go_wp2;go_loopw [5,13] (fun vv i wr=>∃ (q:Nat) (F:List Nat),q≤n∧i=.int .i64 q∧Rep wr false aJ F [.row q ((l.take q).flatMap lnD)] [vv]∧F.Nodup∧(∀ b∈F,W.heap.size≤b)∧Bel W wr) (fun _ i _=>n - (intOf i).toNat)
 case atStart=>exact⟨0,F,zN,rfl,HR.out,Gi.out.1,Gi.out.2,HB.out⟩
 case round=>
  obtain⟨q,F2,hq,rfl,hR,Gv,hF,hB⟩:=hrel;have eO:=uh hR;have mq:=uh (And.intro Gv hF);have gQ:=uh hB;obtain⟨va2,vc2,lT⟩:=hR.raw.aP;subst lT;clear hR Gv hF hB HR Gi HB;by_cases bN:q<n
  rotate_left
  ·obtain rfl:q=n:=by omega
   have qE:¬ ((q:Int)<(q:Int)):=by omega
   have Bh:Hid (Rep wr false aJ F2 [aU l] [.slice va2 q vc2]):=by
    have h5:=eO.out;rw[List.take_of_length_le (by have:=HN.out;omega),HN.out]at h5;rw[HN.out];exact h5
   go_wp2;go_ret;exact⟨_,F2,rfl,Bh.out,mq.out.1,mq.out.2,gQ.out⟩
  have qH:q<l.length:=by have:=HN.out;omega
  rcases cX (HL.out.ae gQ.out) with⟨e0,_⟩|⟨p,o,c,hv,hp,ec,aZ⟩
  ·omega
  rw[← HN.out]at hv ec;injection hv with g1 _ g3
  subst g1;subst g3;unfold maxLen at ec;obtain⟨aw,cw,Dp,Gl⟩:=aZ q qH;have Bf:Hid (l.getD q Pl.aQ∈l):=by
   show _∈_;have e:l.getD q Pl.aQ=l[q]:=by simp[qH]
   rw[e];exact List.getElem_mem qH
  have qS:=uh (Pl.dM Pl.aQ l q qH);obtain⟨x,hx⟩:∃ x,x=l.getD q Pl.aQ:=⟨_,rfl⟩
  rw[← hx]at Dp Gl Bf qS;clear hx aZ;obtain⟨y,hy⟩:∃ y,y=wr.alloc (.cells #[.string x.key,.slice aw x.ws.length cw] 53):=⟨_,rfl⟩
  have fQ:Bel wr y:=by rw[hy];exact ah zR _
  obtain⟨z0,ee⟩:∃ z,z=wr.heap.size:=⟨_,rfl⟩
  have HG:Hid (aD y z0 [.string x.key,.slice aw x.ws.length cw]):=by show aD _ _ _;rw[hy];exact aD.new _ #[.string x.key,.slice aw x.ws.length cw] _ _ ee
  have MB:Hid (∀ b∈F2,b<z0):=by rw[ee];exact eO.out.lt
  have mG:(0:Int)≤(q:Int):=by omega
  have yA:(q:Int)<(n:Int):=by omega
  go_upto_region 5 with(refine wpList_load_mid rfl 53 _ rfl p (o+q*2) rfl [.string x.key,.slice aw x.ws.length cw] _ Dp Try.underlying53 rfl (by kernel_rfl) ?_)
  rw[← hy,← ee];clear hy Dp hp;replace eO:=uh (eO.out.ae fQ)
  replace gQ:=uh (ai gQ.out fQ)
  have Ge:Hid (z0≤y.heap.size∧W.heap.size≤y.heap.size):=⟨by rw[ee];exact fQ.size,gQ.out.size⟩
  have HC:=uh (wR x aw cw y (Gl.ae fQ) (D3.out x Bf.out));clear fQ Gl ee;have pT:=HG.out.lt;have qP:=HG.out.at_;go_wp2_with (refine wpList_load_mid rfl 53 _ rfl z0 0 rfl [.string x.key,.slice aw x.ws.length cw] _ qP Try.underlying53 rfl (by kernel_rfl) ?_)
  refine HC.out.mono ?_;rintro e w1 ⟨cc,FV,rfl,rep,nd,fr,hb⟩;obtain⟨F3,v3,rfl,rfl,r3⟩:=dT rep;obtain⟨a1,m1,oh⟩:=r3.raw.aP;subst oh;clear r3;have Gm:Hid ((F3++[]).Nodup∧∀ b∈F3++[],y.heap.size≤b):=⟨nd,fr⟩
  have Mx:=uh rep;replace gQ:=uh (ai gQ.out hb)
  replace eO:=uh (eO.out.ae hb)
  have Bo:Hid (y.heap.size≤w1.heap.size):=hb.size;clear pT qP HC rep nd fr hb HG;obtain⟨wb,fP⟩:∃ wb,wb=w1.alloc (.cells #[.string x.key,.slice a1 x.ws.length m1] 53):=⟨_,rfl⟩
  have fL:Bel w1 wb:=by rw[fP];exact ah zR _
  obtain⟨v',x3,F4,row,cg,rep,nd,eS,cN,dw⟩:=nI (P:=Try.prog) 30 30 53 2 40 _ Try.bW Try.ey rfl (by decide) au rfl wb (eO.out.ae fL) mq.out.1 (by omega) (F':=F3++[]) (d:=lnD x) (c':=[.string x.key,.slice a1 x.ws.length m1]) ⟨w1.heap.size,0,none⟩ (Mx.out.ae fL) Gm.out.1 (fun b hb e=>by have:=Gm.out.2 b hb;have:=MB.out b e;have:=Ge.out.1;omega) (by rw[fP];exact iW w1 #[.string x.key,.slice a1 x.ws.length m1] 53);obtain⟨wx,wc,ot⟩:=rep.raw.aP;subst ot;rw[fP]at cg;have mg:Hid (Bel W x3):=fg (ai gQ.out fL) cN (fun b e=>mq.out.2 b (dw b e));have L9:Hid (∀ b∈F4,W.heap.size≤b):=fun b hb=>by
   rcases eS b hb with e|e|e
   ·exact mq.out.2 b e
   ·have:=Gm.out.2 b e;have:=Ge.out.2;omega
   ·have:=fL.size;have:=Bo.out;have:=Ge.out;omega
  have mv:Hid (Rep x3 false aJ F4 [.row (q+1) ((l.take (q+1)).flatMap lnD)] [.slice wx (q+1) wc]):=by
   show Rep _ _ _ _ _ _;rw[qS.out,List.flatMap_append,List.flatMap_singleton];exact rep
  have JI:Hid F4.Nodup:=nd;clear rep nd eS cN dw fL fP;go_wp2_with (at_builtin;refine Go.Lib.wpList_append_run _ rfl _ _ 30 30 rfl _ _ rfl rfl _ x3 cg ?_)
  clear cg eO mq;go_roundw
  case rel=>exact⟨q+1,F4,by omega,by go_num,mv.out,JI.out,L9.out,mg.out⟩
  case measure=>simp[intOf];omega
def Ct (sh:List Sh) (A:Dt) (W:World) (e:Ending) (w':World):Prop:=∃ v,e=.returned v∧Raw w' sh [A] [v]∧Bel W w'
theorem nv {l:List Pl.Ln} {pr:Pl.Ln→Bool} {k:Nat} (hk:k<l.length):(l.take (k+1)).filter pr=if pr (l.getD k Pl.aQ) then (l.take k).filter pr++[l.getD k Pl.aQ] else (l.take k).filter pr:=by
 rw[Pl.dM Pl.aQ l k hk,List.filter_append,List.filter_cons,List.filter_nil];split<;>simp
theorem ug (l:List Pl.Ln) (pr:Pl.Ln→Bool) (v:Value) (B:Nat) (w:World) (h:Raw w aJ [aU l] [v]) (hl:l.length≤4194304)
  (hF:∀ (x:Pl.Ln) (aw:Option Addr) (cw:Nat) (W:World),x∈l→Bel w W→Raw W cA [.row x.ws.length (txD x.ws)] [.slice aw x.ws.length cw]→Calls Try.prog 68 #[.agg #[.string x.key,.slice aw x.ws.length cw],.pointer (some ⟨B,0,none⟩)] W fun e w'=>e=.returned (.bool (pr x))∧Bel W w'):
  Calls Try.prog 47 #[v,.func (.func 68) #[] #[.pointer (some ⟨B,0,none⟩)]] w (Ct aJ (aU (l.filter pr)) w):=by
 have HL:=uh h;have HF:=uh hF;obtain⟨va,vc,ev⟩:=h.aP;subst ev;clear h hF;obtain⟨n,hn⟩:∃ n,n=l.length:=⟨_,rfl⟩
 have HN:=uh hn;have eD:l.length=n:=hn.symm;clear hn;rw[eD]at hl;rw[eD];clear eD;go_enter Try.func47,Try.ntmps47
 go_wp2;go_loopw [5,10] (fun vo vi wr=>∃ (k:Nat) (xs:List Value),k≤n∧vi=.int .i64 k∧Sv w wr 53 au vo ((l.take k).filter pr).length (((l.take k).filter pr).flatMap lnD) xs∧Bel w wr) (fun _ vi _=>n - (intOf vi).toNat)
 case atStart=>exact⟨0,[],zN,rfl,⟨(Gr.nil w w.heap.size _ au).row,.nil⟩,zR⟩
 case round=>
  obtain⟨k,xs,hk,rfl,hG,hB⟩:=hrel;have fF:=uh hG;have dV:=uh hB;obtain⟨ua,uc,xK⟩:=hG.shape;subst xK;clear hG hB;by_cases bN:k<n
  rotate_left
  ·have kg:l.take k=l:=List.take_of_length_le (by have:=HN.out;omega);rw[kg]at fF ⊢;have HD:Hid (Ct aJ (aU (l.filter pr)) w (.returned (.slice ua (l.filter pr).length uc)) wr):=⟨_,rfl,fF.out.done dV.out,dV.out⟩
   clear kg;go_wp2;go_ret;exact HD.out
  have eP:k<l.length:=by have:=HN.out;omega
  rcases cX HL.out with⟨e0,_⟩|⟨p,o,c,hv,hp,ec,aZ⟩
  ·omega
  rw[← HN.out]at hv;injection hv with g1 _ g3
  subst g1;subst g3;obtain⟨aw,cw,dO,dF⟩:=aZ k eP;have jJ:=uh (nv (pr:=pr) eP);have hle:((l.take k).filter pr).length≤n:=Nat.le_trans (List.length_filter_le _ _) (by rw[List.length_take];omega);have Bf:Hid (l.getD k Pl.aQ∈l):=by
   show _∈_;have e:l.getD k Pl.aQ=l[k]:=by simp[eP]
   rw[e];exact List.getElem_mem eP
  obtain⟨x,hx⟩:∃ x,x=l.getD k Pl.aQ:=⟨_,rfl⟩
  rw[← hx]at dO dF jJ Bf;have cN:wr.rangeAt p (o+k*2) [.string x.key,.slice aw x.ws.length cw]:=aA dO hp dV.out;have jQ:Hid (Raw w au (lnD x) [.string x.key,.slice aw x.ws.length cw]):=.s _ dF;obtain⟨m,hm⟩:∃ m,m=((l.take k).filter pr).length:=⟨_,rfl⟩
  rw[← hm]at fF hle ⊢;have HM:=uh hm;have dd:(0:Int)≤(k:Int):=by omega
  have de:(k:Int)<(n:Int):=by omega
  obtain⟨y,hy⟩:∃ y,y=wr.alloc (.cells #[.string x.key,.slice aw x.ws.length cw] 53):=⟨_,rfl⟩
  have fQ:Bel wr y:=by rw[hy];exact ah zR _
  obtain⟨z0,ee⟩:∃ z,z=wr.heap.size:=⟨_,rfl⟩
  have HG:Hid (aD y z0 [.string x.key,.slice aw x.ws.length cw]):=by show aD _ _ _;rw[hy];exact aD.new _ #[.string x.key,.slice aw x.ws.length cw] _ _ ee
  have HC:=uh (HF.out x aw cw y Bf.out (ai dV.out fQ) (dF.ae (ai dV.out fQ)));clear hx dO dF aZ ec hm;go_upto_region 5 with(refine wpList_load_mid rfl 53 _ rfl p (o+k*2) rfl [.string x.key,.slice aw x.ws.length cw] _ cN Try.underlying53 rfl (by kernel_rfl) ?_)
  rw[← hy,← ee];clear hy cN hp;replace fF:=uh (fF.out.ae fQ)
  replace dV:=uh (ai dV.out fQ)
  clear fQ ee;have pT:=HG.out.lt;have qP:=HG.out.at_;go_wp2_with (refine wpList_load_mid rfl 53 _ rfl z0 0 rfl [.string x.key,.slice aw x.ws.length cw] _ qP Try.underlying53 rfl (by kernel_rfl) ?_)
  refine HC.out.mono ?_;rintro e w1 ⟨rfl,bZ⟩;replace fF:=uh (fF.out.ae bZ)
  replace dV:=uh (ai dV.out bZ)
  replace HG:=uh (HG.out.ae bZ)
  clear bZ pT qP HC;cases hq:pr x
  ·have HE:Hid ((l.take (k+1)).filter pr=(l.take k).filter pr):=by show _=_;rw[jJ.out,hq];rfl
   clear hq;go_wp2;go_roundw
   case rel=>exact⟨k+1,xs,by omega,by go_num,by rw[HE.out,← HM.out];exact fF.out,dV.out⟩
   case measure=>simp[intOf];omega
  ·have HE:Hid ((l.take (k+1)).filter pr=(l.take k).filter pr++[x]):=by show _=_;rw[jJ.out,hq];rfl
   clear hq;have pT:=HG.out.lt;have qP:=HG.out.at_;go_wp2_with first|refine wpList_load_mid rfl 53 _ rfl z0 0 rfl [.string x.key,.slice aw x.ws.length cw] _ qP Try.underlying53 rfl (by kernel_rfl) ?_|(refine kJ (wa:=w) rfl _ _ rfl (.slice ua m uc) m _ xs rfl (fF.out.ae (ah zR _)) w1.heap.size 1 (lnD x) [.string x.key,.slice aw x.ws.length cw] rfl jQ.out (World.news_of_block (cs:=#[.string x.key,.slice aw x.ws.length cw]) (heap_alloc_new w1 _)) (by omega) (Nat.le_trans dV.out.size (by simp)) ?_;intro gg1 KO w2 q1 q2;have HQ:=uh (And.intro q1 (fF.out.ae (ah zR _)|>.below (ah dV.out _) q2));clear q1 q2)
   go_roundw
   case rel=>exact⟨k+1,_,by omega,by go_num,by rw[HE.out,List.length_append,← HM.out,List.flatMap_append,List.flatMap_singleton];exact HQ.out.1,HQ.out.2⟩
   case measure=>simp[intOf];omega
theorem zA (x key:ByteArray) (v1:Value) (B:Nat) (w:World) (hB:w.cell? ⟨B,0,none⟩=some (.string key)) (bN:B<w.heap.size):
  Calls Try.prog 68 #[.agg #[.string x,v1],.pointer (some ⟨B,0,none⟩)] w fun e w'=>e=.returned (.bool (x.toList==key.toList))∧Bel w w':=by
 have iM:B≠w.heap.size:=by omega
 go_enter Try.func68,Try.ntmps68
 go_wp2;go_ret;refine⟨rfl, ?_⟩;repeat(first|exact zR|refine ah ?_ _|refine Below.drew ?_)
theorem zX (ru:Pl.Ru) (a1 a3:Option Addr) (c1 c3:Nat) (l:List Pl.Ln) (v:Value) (w:World) (h:Raw w aJ [aU l] [v]) (hl:l.length≤4194304) (hw:∀ x∈l,x.ws.length≤4194304) (hd:Raw w cA [.row ru.dflt.length (txD ru.dflt)] [.slice a3 ru.dflt.length c3]) (xJ:ru.dflt.length≤4194304):
  Calls Try.prog 38 #[.agg #[.string ru.key,.slice a1 ru.args.length c1,.bool ru.many,.slice a3 ru.dflt.length c3],v] w (fe aJ (aU (Pl.bw ru l)) w):=by
 have D3:=uh hw;have AV:=uh xJ;obtain⟨wa,aS⟩:∃ wa,wa=w.alloc (.cells #[.string ru.key,.slice a1 ru.args.length c1,.bool ru.many,.slice a3 ru.dflt.length c3] 40):=⟨_,rfl⟩
 obtain⟨b0,bD⟩:∃ b0,b0=w.heap.size:=⟨_,rfl⟩
 have HB:Hid (Bel w wa):=by show Below _ _ _;rw[aS];exact ah zR _
 have HK:Hid (aD wa b0 [.string ru.key,.slice a1 ru.args.length c1,.bool ru.many,.slice a3 ru.dflt.length c3]):=by show aD _ _ _;rw[aS,bD];exact aD.new w #[.string ru.key,.slice a1 ru.args.length c1,.bool ru.many,.slice a3 ru.dflt.length c3] _ _ rfl
 have HD:=uh (hd.ae HB.out);have HC:=uh (ug l (fun x=>x.key.toList==ru.key.toList) v b0 wa (h.ae HB.out) hl (fun x aw cw W _ hb _=>zA x.key ru.key _ b0 W ((HK.out.ae hb).get 0 _ rfl) (HK.out.ae hb).lt));have jD:Hid ((Pl.aI l ru.key).length≤4194304):=Nat.le_trans (Pl.ef _ _) hl;have Ip:Hid (∀ x∈Pl.aI l ru.key,x.ws.length≤4194304):=fun x hx=>D3.out x (List.mem_filter.1 hx).1;have KL:Hid (Pl.bw ru l=if decide ((Pl.aI l ru.key).length=0)&& !ru.many then [⟨ru.key,ru.dflt⟩] else Pl.aI l ru.key):=rfl;obtain⟨va,vc,ev⟩:=h.aP;subst ev;clear h hl hw hd xJ D3;go_enter Try.func38,Try.ntmps38
 go_upto_region 1 with fail
 rw[← aS,← bD];clear aS bD;go_wp2_with fail
 refine HC.out.mono ?_;rintro e w1 ⟨v1,rfl,hr,hb⟩;obtain⟨out,qM⟩:∃ out,out=Pl.aI l ru.key:=⟨_,rfl⟩
 have ji:Raw w1 aJ [aU out] [v1]:=by rw[qM];exact hr
 rw[← qM]at jD Ip KL;obtain⟨va1,vc1,ev1⟩:=ji.aP;subst ev1;have HR:=uh ji;replace HB:=uh (ai HB.out hb)
 replace HK:=uh (HK.out.ae hb)
 replace HD:=uh (HD.out.ae hb)
 clear hr ji hb qM HC;have x0:=HK.out.get 0 _ rfl;have x2:=HK.out.get 2 _ rfl;have x3:=HK.out.get 3 _ rfl;have xl:=HK.out.lt;have j9:=uh (nM out (.slice va1 out.length vc1) w1 HR.out jD.out Ip.out);obtain⟨m,mG⟩:∃ m,m=out.length:=⟨_,rfl⟩
 have HM:=uh mG;rw[← mG]at j9;rw[← mG];clear mG HR;by_cases h0:m=0
 rotate_left
 ·have eT:¬ ((m:Int)=0):=by omega
  have HE:Hid (Pl.bw ru l=out):=by show _=_;rw[KL.out,← HM.out];simp[h0]
  go_wp2_with fail
  refine j9.out.mono ?_;rintro e w2 ⟨v2,F,rfl,r,nd,fr,hb⟩;have HX:Hid (fe aJ (aU (Pl.bw ru l)) w (.returned v2) w2):=by rw[HE.out];exact⟨_,F,rfl,r,nd,fun b fE=>Nat.le_trans HB.out.size (fr b fE),ai HB.out hb⟩
  clear r nd fr hb;go_wp2;go_ret;exact HX.out
 subst h0;cases hm:ru.many
 rotate_left
 ·have HE:Hid (Pl.bw ru l=out):=by show _=_;rw[KL.out,hm];simp
  rw[hm]at x2;go_wp2_with fail
  refine j9.out.mono ?_;rintro e w2 ⟨v2,F,rfl,r,nd,fr,hb⟩;have HX:Hid (fe aJ (aU (Pl.bw ru l)) w (.returned v2) w2):=by rw[HE.out];exact⟨_,F,rfl,r,nd,fun b fE=>Nat.le_trans HB.out.size (fr b fE),ai HB.out hb⟩
  clear r nd fr hb;go_wp2;go_ret;exact HX.out
 rw[hm]at x2;have HE:Hid (Pl.bw ru l=[⟨ru.key,ru.dflt⟩]):=by show _=_;rw[KL.out,hm,← HM.out];simp
 obtain⟨w3,fy⟩:∃ w3,w3=w1.alloc (.cells #[.string ru.key,.slice a3 ru.dflt.length c3] 53):=⟨_,rfl⟩
 have eV:Bel w1 w3:=by rw[fy];exact ah zR _
 have B8:Hid (Raw w3 aJ [aU [⟨ru.key,ru.dflt⟩]] [.slice (some ⟨w1.heap.size,0,none⟩) 1 1]):=by
  refine .row _ _ w1.heap.size 0 1 1 [.string ru.key,.slice a3 ru.dflt.length c3] _ (by rw[fy];simp) ⟨by decide,zE⟩ ?_ ?_ .nil
  ·rw[fy];exact(aD.new w1 #[.string ru.key,.slice a3 ru.dflt.length c3] _ _ rfl).at_
  ·exact .s _ (HD.out.ae eV)
 clear j9;have j9:=uh (nM [⟨ru.key,ru.dflt⟩] (.slice (some ⟨w1.heap.size,0,none⟩) 1 1) w3 B8.out (by simp) (by intro x hx;rw[List.mem_singleton]at hx;subst hx;exact AV.out));go_upto_region 4 with fail
 rw[← fy];clear fy;replace HB:=uh (ai HB.out eV)
 clear eV;go_wp2_with fail
 refine j9.out.mono ?_;rintro e w2 ⟨v2,F,rfl,r,nd,fr,hb⟩;have HX:Hid (fe aJ (aU (Pl.bw ru l)) w (.returned v2) w2):=by rw[HE.out];exact⟨_,F,rfl,r,nd,fun b fE=>Nat.le_trans HB.out.size (fr b fE),ai HB.out hb⟩
 clear r nd fr hb;go_wp2;go_ret;exact HX.out
end Go.Proofs.Ytmgibmmpopoboaa
