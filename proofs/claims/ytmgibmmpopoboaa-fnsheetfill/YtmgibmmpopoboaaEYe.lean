import Derived.Maps.AppendAt
import Derived.Laws.OwnMore
import Derived.Test.YtmgibmmpopoboaaEYb
import Derived.Test.YtmgibmmpopoboaaEIv
import Derived.Test.YtmgibmmpopoboaaECy
import Derived.Test.YtmgibmmpopoboaaEYp
import Derived.Test.YtmgibmmpopoboaaEGn
namespace Go.Proofs.Ytmgibmmpopoboaa
open Go.RowKit Go.Deep
theorem Fp {P:Program} (lo:Nat) (t ty e:TypeId) (size bytes:Nat) (z:Value) (ht:P.underlying t=some (.slice e)) (hinf:(P.info? e).map (fun i=>(i.zero,i.size,i.bytes))=some (some z,size,bytes)) (hzs:z.cells.size=size) (s5:0<size) (hb:bytes≤1000) (sh:List Sh) (hk:sh.length=size)
  {W:World} {v:Value} {n:Nat} {G:List Nat} {es:List Dt} {xs:List Value} (h:Gr W lo e sh v n G es xs) {F:List Nat} {m:Nat} {ds:List Dt} {s:Value} (hr:Rep W false [.row e sh] F [.row m ds] [s]) (nd:F.Nodup) (hF:∀ b∈F,lo≤b∧b ∉ G∧v.ownBlock≠some b) (hn:n+m≤1000000000) (eN:lo≤W.heap.size):
  ∃ u W' G' xs',(Builtin.append_ #[t,t] ty #[v,s]).run P W=.ok u W'∧Gr W' lo e sh u (n+m) G' (es++ds) xs'∧W.grownBy W' v.ownBlock∧(u.ownBlock=v.ownBlock∨u.ownBlock=some W.heap.size):=by
 obtain⟨i,hi,ei⟩:=Option.map_eq_some_iff.1 hinf;simp only[Prod.mk.injEq]at ei;obtain⟨hz,hs,fQ⟩:=ei;have EM:n+m≤maxLen:=by unfold maxLen;omega
 have fL:(n+m)*bytes≤140737488355328:=Nat.le_trans (Nat.mul_le_mul hn hb) (by omega);subst hk;have key:∀ (u:Value) (W':World) (G2:List Nat) (vs:List Value),Rep W false (bP m sh) G2 ds vs→(∀ b∈G2,b∈F)→G2.Nodup→W'.ownsRow lo e sh.length u (n+m) (xs++vs)→W.grownBy W' v.ownBlock→(u.ownBlock=v.ownBlock∨u.ownBlock=some W.heap.size)→Gr W' lo e sh u (n+m) (G++G2) (es++ds) (xs++vs):=by
  intro u W' G2 vs hR eS Mw hU hg hu;refine⟨hU, ?_, ?_, ?_⟩
  ·rw[iT];exact(h.rep.grown hg fun b hb=>(h.fr b hb).2).app (hR.grown hg fun b hb=>(hF b (eS b hb)).2.2)
  ·rw[List.nodup_append];exact⟨h.nd,Mw,fun a ha b hb e=>(hF b (eS b hb)).2.1 (e ▸ ha)⟩
  ·intro b hb;rcases List.mem_append.1 hb with hb|hb
   ·refine⟨(h.fr b hb).1,fun e=> ?_⟩;rcases hu with q|q
    ·exact(h.fr b hb).2 (q ▸ e)
    ·rw[q]at e;injection e with e;have:=h.rep.lt b hb;omega
   ·refine⟨(hF b (eS b hb)).1,fun e=> ?_⟩;rcases hu with q|q
    ·exact(hF b (eS b hb)).2.2 (q ▸ e)
    ·rw[q]at e;injection e with e;have:=hR.lt b hb;omega
 rcases hr.slice with⟨_,rfl,rfl,rfl,a,rfl⟩|⟨p,o,c,u,mm,G2,rfl,rfl,hnc,ho,hle,_,vs,Dp,hR⟩
 ·cases a with
  |none=>
   have cg:=run_append_owned_none (P:=P) (w:=W) lo t ty e i sh.length ht hi v n xs h.row;refine⟨v,W,G++[],xs++[],cg,key v W [] [] (by rw[dj];exact .nil) (by simp) List.nodup_nil (by rw[List.append_nil];exact h.row) ⟨rfl,rfl,rfl,zE,fun _ _ _=>rfl⟩ (Or.inl rfl),⟨rfl,rfl,rfl,zE,fun _ _ _=>rfl⟩,Or.inl rfl⟩
  |some ad=>
   obtain⟨u,W',cg,h2,h3,_,h5⟩:=run_append_own_at (P:=P) W lo t ty e i z sh.length bytes ht hi hz hs fQ hzs s5 v n xs h.row ad 0 0 [] (by simp) (fun j u h=>by simp at h) (fun u h=>by cases h) EM fL eN;exact⟨u,W',_,_,cg,key u W' [] [] (by rw[dj];exact .nil) (by simp) List.nodup_nil h2 h3 h5,h3,h5⟩
 ·rw[List.nodup_cons]at nd;obtain⟨u2,W',cg,h2,h3,_,h5⟩:=run_append_own_at (P:=P) W lo t ty e i z sh.length bytes ht hi hz hs fQ hzs s5 v n xs h.row ⟨p,o,none⟩ m c vs (by rw[hR.len,bq]) (fun j u h=>by rw[Addr.add_mid];exact Dp j u h) (fun u h=>hR.raw.one u h) EM fL eN;exact⟨u2,W',_,_,cg,key u2 W' G2 vs hR (fun b hb=>by simp[hb]) nd.2 h2 h3 h5,h3,h5⟩
set_option maxHeartbeats 40000000
set_option maxRecDepth 8000
structure Kn (W:World) (mb:Nat) (vt vb vs:Value):Prop where
 map:W.heap[mb]? =some (.map #[⟨.string {data:=#[116,101,97,109]},.agg #[vt],0⟩,⟨.string {data:=#[98,101,114,116,104]},.agg #[vb],1⟩,⟨.string {data:=#[115,101,114,118,105,99,101]},.agg #[vs],2⟩] 3)
 rules:∀ kind,∃ ra rc,iF kind vt vb vs=.slice ra (Pl.aj kind).length rc∧Raw W [.row 40 aC] [bQ (Pl.aj kind)] [.slice ra (Pl.aj kind).length rc]
theorem Kn.lt {W:World} {mb:Nat} {vt vb vs:Value} (h:Kn W mb vt vb vs):mb<W.heap.size:=(Array.getElem?_eq_some_iff.1 h.map).1
theorem Kn.ae {W W':World} {mb:Nat} {vt vb vs:Value} (h:Kn W mb vt vb vs) (hb:Bel W W'):Kn W' mb vt vb vs:=
 ⟨(hb.block _ h.lt).trans h.map,fun kind=>by obtain⟨ra,rc,e,hr⟩:=h.rules kind;exact⟨ra,rc,e,hr.ae hb⟩⟩
def KnA (w:World) (e:Ending) (w':World):Prop:=∃ mb vt vb vs,e=.returned (.map (some mb))∧Kn w' mb vt vb vs∧Bel w w'
theorem Ab (w:World):Calls Try.prog 33 #[] w (KnA w):=by
 refine(gy w).mono ?_;rintro e w' ⟨mb,w0,vt,vb,vs,rfl,hm,h0,k1,k2,k3,hb⟩;refine⟨mb,vt,vb,vs,rfl,⟨hm,fun kind=> ?_⟩,hb⟩;obtain⟨v,F,he,iC,_⟩:=kM (w:=w) kind h0 k1 k2 k3 hb;injection he with he
 obtain⟨ra,rc,hv⟩:=iC.raw.aP;subst hv;exact⟨ra,rc,he,iC.raw⟩
theorem Kn.look {W:World} {mb:Nat} {vt vb vs:Value} (h:Kn W mb vt vb vs) (kind:ByteArray):∃ ra rc,(Instr.lookup 61 (.map (some mb)) (.string kind) false).run Try.prog W=.ok (.agg #[.slice ra (Pl.aj kind).length rc]) W∧Raw W [.row 40 aC] [bQ (Pl.aj kind)] [.slice ra (Pl.aj kind).length rc]:=by
 obtain⟨ra,rc,e,hr⟩:=h.rules kind;have:=lG h.map kind;rw[e]at this;exact⟨ra,rc,this,hr⟩
theorem nf (n:Nat) (W:World) (hn:n≤4194304):Calls Try.prog 73 #[.slice none 0 0,.int .i64 n] W (fe aV (.row 0 []) W):=by
 have h1:¬ ((n:Int)<0):=by omega
 by_cases h0:n=0
 ·subst h0;go_enter Try.func73,Try.ntmps73
  go_wp2;go_ret;exact⟨_,[],rfl,.emp _ _ _ rfl .nil,List.nodup_nil,by simp,zR⟩
 obtain⟨i0,eT,hz,hs,fQ⟩:=iZ Try.ff;have ye:∀ ty,(Builtin.append_ #[23,3] ty #[.slice none 0 0,.int .i64 (n:Int)]).run Try.prog W=.ok (.slice (some ⟨W.heap.size,0,none⟩) n (grownCap W n 0 32)) (W.drew.alloc (.cells ((#[]:Array Value)++Builtin.zeroCells #[.string {data:=#[]},.string {data:=#[]},.slice none 0 0] n++Builtin.zeroCells #[.string {data:=#[]},.string {data:=#[]},.slice none 0 0] (grownCap W n 0 32 - n)) 32)):=fun ty=>by
  have:=Lib.run_append_grow_zeros (P:=Try.prog) W 23 3 ty 32 i0 _ .i64 .i64 Try.bY Try.underlying3 eT hz none 0 0 [] (run_firstCells_none W.drew i0.size 0 0 0) n (by omega) (by rw[hs];decide) (by omega) (by omega) (by rw[fQ];omega) (growslice_fits (by omega) (by rw[fQ];omega));rw[Nat.zero_add]at this;exact this
 have DL:n≤grownCap W n 0 32:=grownCap_ge W _ _ _;have oY:=grownCap_le_maxLen W n 0 32 (by unfold maxLen;omega);obtain⟨G,hG⟩:∃ G,G=grownCap W n 0 32:=⟨_,rfl⟩
 rw[← hG]at ye DL oY;obtain⟨cur,lV⟩:∃ cur,cur=(#[]:Array Value)++Builtin.zeroCells #[.string {data:=#[]},.string {data:=#[]},.slice none 0 0] n++Builtin.zeroCells #[.string {data:=#[]},.string {data:=#[]},.slice none 0 0] (G - n):=⟨_,rfl⟩
 have mE:cur.size=G*3:=by rw[lV,Array.size_append,Array.size_append,size_zeroCells,size_zeroCells];simp;omega
 rw[← lV]at ye;clear lV hG;obtain⟨w1,vQ⟩:∃ w1,w1=W.drew.alloc (.cells cur 32):=⟨_,rfl⟩
 have HB:Hid (Bel W w1):=by show Below _ _ _;rw[vQ];exact ah (Below.drew zR) _
 have HO:Hid (aL w1 W.heap.size 32 (G*3)):=by show aL _ _ _ _;rw[vQ];exact⟨cur,heap_alloc_new W.drew _,mE⟩
 rw[← vQ]at ye;unfold maxLen at oY;have hg0:(0:Int)<(n:Int):=by omega
 clear vQ mE;go_enter Try.func73,Try.ntmps73
 go_wp2_with (at_builtin;refine Lib.wpList_append_run _ rfl _ _ 23 3 rfl _ _ rfl rfl _ w1 (ye _) ?_)
 all_goals (go_ret;exact⟨_,[W.heap.size],rfl,.row _ _ W.heap.size 0 0 G 32 (G*3) [] [] [] HO.out (by simp) (by simp) ⟨by omega,by omega⟩ (ze _ _ _) .nil .nil,by simp,by simp,HB.out⟩)
theorem fH (s:List Pl.Bl) (h:Pl.wsh s≤1048576):∀ b∈s,b.lines.length≤1048576∧∀ x∈b.lines,x.ws.length≤4194304:=fun b hb=>by
 refine⟨?_,(iP s h b hb).2⟩;have h1:=Pl.eX (fun b=>Pl.wbl b+1) s b hb;have h2:Pl.wbl b=b.kind.size+b.name.size+(b.lines.map fun x=>Pl.wln x+1).sum:=rfl;have h3:=qu b.lines;have h4:Pl.wsh s=(s.map fun b=>Pl.wbl b+1).sum:=rfl;omega
theorem rS (l:List Pl.Bl) (v:Value) (B1 B2:Nat) (W:World) (h:Raw W aV [aW l] [v]) (hl:l.length≤4194304) (gg:Pl.Bl→Pl.Bl) (hF:∀ (x:Pl.Bl) (aw:Option Addr) (cw:Nat) (X:World),x∈l→Bel W X→Raw X aJ [aU x.lines] [.slice aw x.lines.length cw]→Calls Try.prog 45 #[.agg #[.string x.kind,.string x.name,.slice aw x.lines.length cw],.pointer (some ⟨B1,0,none⟩),.pointer (some ⟨B2,0,none⟩)] X (Ans ar (blD (gg x)) X)):
  Calls Try.prog 44 #[v,.func (.func 45) #[] #[.pointer (some ⟨B1,0,none⟩),.pointer (some ⟨B2,0,none⟩)]] W (fe aV (aW (l.map gg)) W):=by
 have HL:=uh h;have HF:=uh hF;obtain⟨va,vc,ev⟩:=h.aP;subst ev;clear h hF;obtain⟨n,hn⟩:∃ n,n=l.length:=⟨_,rfl⟩
 have HN:=uh hn;have eD:l.length=n:=hn.symm;clear hn;rw[eD]at hl ⊢;clear eD;go_enter Try.func44,Try.ntmps44
 go_wp2_with fail
 refine(nf n W hl).mono ?_;rintro e w0 ⟨v,F,rfl,r,nd,fr,hb⟩;obtain⟨va1,vc1,lT⟩:=r.raw.aP;subst lT;have HR:=uh r;have Gi:=uh (And.intro nd fr);have HB:=uh hb;clear r nd fr hb;go_wp2;go_loopw [5,13] (fun vv i wr=>∃ (q:Nat) (F:List Nat),q≤n∧i=.int .i64 q∧Rep wr false aV F [.row q ((l.take q).flatMap (fun y=>blD (gg y)))] [vv]∧F.Nodup∧(∀ b∈F,W.heap.size≤b)∧Bel W wr) (fun _ i _=>n - (intOf i).toNat)
 case atStart=>exact⟨0,F,zN,rfl,HR.out,Gi.out.1,Gi.out.2,HB.out⟩
 case round=>
  obtain⟨q,F2,hq,rfl,hR,Gv,hF,hB⟩:=hrel;have eO:=uh hR;have mq:=uh (And.intro Gv hF);have gQ:=uh hB;obtain⟨va2,vc2,lT⟩:=hR.raw.aP;subst lT;clear hR Gv hF hB HR Gi HB;by_cases bN:q<n
  rotate_left
  ·obtain rfl:q=n:=by omega
   have qE:¬ ((q:Int)<(q:Int)):=by omega
   have Bh:Hid (Rep wr false aV F2 [aW (l.map gg)] [.slice va2 q vc2]):=by
    have h5:=eO.out;rw[List.take_of_length_le (by have:=HN.out;omega),HN.out]at h5;rw[HN.out];unfold aW;rw[List.length_map,List.flatMap_map];exact h5
   go_wp2;go_ret;exact⟨_,F2,rfl,Bh.out,mq.out.1,mq.out.2,gQ.out⟩
  have qH:q<l.length:=by have:=HN.out;omega
  rcases cL (HL.out.ae gQ.out) with⟨e0,_⟩|⟨p,o,c,hv,hp,ec,aZ⟩
  ·omega
  rw[← HN.out]at hv ec;injection hv with g1 _ g3
  subst g1;subst g3;unfold maxLen at ec;obtain⟨aw,cw,Dp,Gl⟩:=aZ q qH;have Bf:Hid (l.getD q Pl.aG∈l):=by
   show _∈_;have e:l.getD q Pl.aG=l[q]:=by simp[qH]
   rw[e];exact List.getElem_mem qH
  have qS:=uh (Pl.dM Pl.aG l q qH);obtain⟨x,hx⟩:∃ x,x=l.getD q Pl.aG:=⟨_,rfl⟩
  rw[← hx]at Dp Gl Bf qS;clear hx aZ;obtain⟨y,hy⟩:∃ y,y=wr.alloc (.cells #[.string x.kind,.string x.name,.slice aw x.lines.length cw] 32):=⟨_,rfl⟩
  have fQ:Bel wr y:=by rw[hy];exact ah zR _
  obtain⟨z0,ee⟩:∃ z,z=wr.heap.size:=⟨_,rfl⟩
  have HG:Hid (aD y z0 [.string x.kind,.string x.name,.slice aw x.lines.length cw]):=by show aD _ _ _;rw[hy];exact aD.new _ #[.string x.kind,.string x.name,.slice aw x.lines.length cw] _ _ ee
  have MB:Hid (∀ b∈F2,b<z0):=by rw[ee];exact eO.out.lt
  have mG:(0:Int)≤(q:Int):=by omega
  have yA:(q:Int)<(n:Int):=by omega
  go_upto_region 5 with(refine wpList_load_mid rfl 32 _ rfl p (o+q*3) rfl [.string x.kind,.string x.name,.slice aw x.lines.length cw] _ Dp Try.underlying32 rfl (by kernel_rfl) ?_)
  rw[← hy,← ee];clear hy Dp hp;replace eO:=uh (eO.out.ae fQ)
  replace gQ:=uh (ai gQ.out fQ)
  have Ge:Hid (z0≤y.heap.size∧W.heap.size≤y.heap.size):=⟨by rw[ee];exact fQ.size,gQ.out.size⟩
  have HC:=uh (HF.out x aw cw y Bf.out gQ.out (Gl.ae fQ));clear fQ Gl ee;have pT:=HG.out.lt;have qP:=HG.out.at_;go_wp2_with (refine wpList_load_mid rfl 32 _ rfl z0 0 rfl [.string x.kind,.string x.name,.slice aw x.lines.length cw] _ qP Try.underlying32 rfl (by kernel_rfl) ?_)
  refine HC.out.mono ?_;rintro e w1 ⟨cc,FV,rfl,rep,nd,fr,hb⟩;obtain⟨F3,v3,rfl,rfl,r3⟩:=dZ rep;obtain⟨a1,m1,oh⟩:=r3.raw.aP;subst oh;clear r3;have Gm:Hid ((F3++[]).Nodup∧∀ b∈F3++[],y.heap.size≤b):=⟨nd,fr⟩
  have Mx:=uh rep;replace gQ:=uh (ai gQ.out hb)
  replace eO:=uh (eO.out.ae hb)
  have Bo:Hid (y.heap.size≤w1.heap.size):=hb.size;clear pT qP HC rep nd fr hb HG;obtain⟨wb,fP⟩:∃ wb,wb=w1.alloc (.cells #[.string (gg x).kind,.string (gg x).name,.slice a1 (gg x).lines.length m1] 32):=⟨_,rfl⟩
  have fL:Bel w1 wb:=by rw[fP];exact ah zR _
  obtain⟨v',x3,F4,row,cg,rep,nd,eS,cN,dw⟩:=nI (P:=Try.prog) 23 23 32 3 56 _ Try.bY Try.ff rfl (by decide) ar rfl wb (eO.out.ae fL) mq.out.1 (by omega) (F':=F3++[]) (d:=blD (gg x)) (c':=[.string (gg x).kind,.string (gg x).name,.slice a1 (gg x).lines.length m1]) ⟨w1.heap.size,0,none⟩ (Mx.out.ae fL) Gm.out.1 (fun b hb e=>by have:=Gm.out.2 b hb;have:=MB.out b e;have:=Ge.out.1;omega) (by rw[fP];exact iW w1 #[.string (gg x).kind,.string (gg x).name,.slice a1 (gg x).lines.length m1] 32);obtain⟨wx,wc,ot⟩:=rep.raw.aP;subst ot;rw[fP]at cg;have mg:Hid (Bel W x3):=fg (ai gQ.out fL) cN (fun b e=>mq.out.2 b (dw b e));have L9:Hid (∀ b∈F4,W.heap.size≤b):=fun b hb=>by
   rcases eS b hb with e|e|e
   ·exact mq.out.2 b e
   ·have:=Gm.out.2 b e;have:=Ge.out.2;omega
   ·have:=fL.size;have:=Bo.out;have:=Ge.out;omega
  have mv:Hid (Rep x3 false aV F4 [.row (q+1) ((l.take (q+1)).flatMap (fun y=>blD (gg y)))] [.slice wx (q+1) wc]):=by
   show Rep _ _ _ _ _ _;rw[qS.out,List.flatMap_append,List.flatMap_singleton];exact rep
  have JI:Hid F4.Nodup:=nd;clear rep nd eS cN dw fL fP;go_wp2_with (at_builtin;refine Go.Lib.wpList_append_run _ rfl _ _ 23 23 rfl _ _ rfl rfl _ x3 cg ?_)
  clear cg eO mq;go_roundw
  case rel=>exact⟨q+1,F4,by omega,by go_num,mv.out,JI.out,L9.out,mg.out⟩
  case measure=>simp[intOf];omega
def VEt (p:Nat) (o:Nat) (p2:Nat) (o2:Nat) (n:Nat) (c1:Nat) (c2:Nat) (k:Nat) (x:ByteArray) (y:ByteArray) (b:Bool):Nat→Value→World→Prop
 |0,vv,_=>vv=.slice (some ⟨p,o,none⟩) n c1
 |1,vv,_=>vv=.int .i64 (k:Int)
 |2,vv,_=>vv=.pointer (some ⟨p,o+k,none⟩)
 |3,vv,_=>vv=.string x
 |4,vv,_=>vv=.slice (some ⟨p2,o2,none⟩) n c2
 |5,vv,_=>vv=.int .i64 (k:Int)
 |6,vv,_=>vv=.pointer (some ⟨p2,o2+k,none⟩)
 |7,vv,_=>vv=.string y
 |8,vv,_=>vv=.bool b
 |_,_,_=>True
theorem zI (p:Nat) (o:Nat) (p2:Nat) (o2:Nat) (n:Nat) (c1:Nat) (c2:Nat) (k:Nat) (x:ByteArray) (y:ByteArray) (b:Bool):∀ jj vv W W',Bel W W'→VEt p o p2 o2 n c1 c2 k x y b jj vv W→VEt p o p2 o2 n c1 c2 k x y b jj vv W':=by
 intro jj vv W W' hb h;match jj with
 |0=>exact h
 |1=>exact h
 |2=>exact h
 |3=>exact h
 |4=>exact h
 |5=>exact h
 |6=>exact h
 |7=>exact h
 |8=>exact h
 |n+9=>exact trivial
theorem sG (A B:List ByteArray) (va vb:Value) (w:World) (hA:Raw w cA [.row A.length (txD A)] [va]) (hB:Raw w cA [.row B.length (txD B)] [vb]):
  Calls Try.prog 49 #[va,vb] w fun e w'=>e=.returned (.bool (Pl.gn A B))∧Bel w w':=by
 obtain⟨a1,c1,rfl⟩:=hA.aP;obtain⟨a2,c2,rfl⟩:=hB.aP;obtain⟨R,hR⟩:∃ R,R=Pl.gn A B:=⟨_,rfl⟩
 have HR:Hid (R=Pl.gn A B):=hR;rw[← hR];clear hR;by_cases hlen:A.length=B.length
 rotate_left
 ·have iM:((A.length:Int) !=(B.length:Int))=true:=by simp;omega
  have HE:Hid (R=false):=HR.out.trans (rF A B hlen);clear hlen hA hB;go_enter Try.func49,Try.ntmps49
  go_wp2;go_ret;exact⟨Pl.aB HE.out.symm,zR⟩
 have HA:=uh (g7 hA);have HB:=uh (g7 hB);obtain⟨n,hn⟩:∃ n,n=A.length:=⟨_,rfl⟩
 have hm:B.length=n:=by omega
 rw[← hn]at HA;rw[hm]at HB;rw[← hn,hm];have HN:Hid (n=A.length∧n=B.length):=⟨hn,hm.symm⟩
 have vJ:n≤maxLen:=by
  rcases HA.out with h|⟨_,_,_,_,_,h,_⟩
  ·omega
  ·exact h
 unfold maxLen at vJ;have hne0:((n:Int) !=(n:Int))=false:=by simp
 clear hA hB hn hm hlen;go_enter Try.func49,Try.ntmps49
 go_wp2;go_loopw [13] (fun i wr=>∃ k:Nat,k≤n∧i=.int .i64 k∧Hid (R=Pl.gn (A.drop k) (B.drop k))∧Bel w wr) (fun i _=>n - (intOf i).toNat)
 case atStart=>exact⟨0,zN,rfl,HR,zR⟩
 case round=>
  obtain⟨k,hk,rfl,HI,hB⟩:=hrel;have qR:=uh hB;clear hB;by_cases bN:k<n
  rotate_left
  ·obtain rfl:k=n:=by omega
   have HE:Hid (R=true):=by show R=_;rw[HI.out,List.drop_of_length_le (by have:=HN.out.1;omega),List.drop_of_length_le (by have:=HN.out.2;omega)];rfl
   go_wp2;go_ret;exact⟨Pl.aB HE.out.symm,qR.out⟩
  rcases HA.out with⟨e0,_⟩|⟨p,o,c,hv,hp,_,hc⟩
  ·omega
  injection hv with g1 _ g3
  subst g1;subst g3;rcases HB.out with⟨e0,_⟩|⟨p2,o2,GX,fK,oy,_,kj⟩
  ·omega
  injection fK with k1 _ k3
  subst k1;subst k3;have x0:=hc k bN;have y0:=kj k bN;have HS:Hid _:=uh (CQ (A:=A) (B:=B) (k:=k) (by rw[← HN.out.1];exact bN) (by rw[← HN.out.2];exact bN));obtain⟨x,hx⟩:∃ x,x=A.getD k Pl.eR:=⟨_,rfl⟩
  obtain⟨y,hy⟩:∃ y,y=B.getD k Pl.eR:=⟨_,rfl⟩
  rw[← hx]at HS x0;rw[← hy]at HS y0;have eB:Hid (wr.rangeAt p (o+k) [.string x]):=aA (fun j u hu=>by
   cases j with
   |zero=>injection hu with hu;rw[← hu];exact x0
   |succ j=>simp at hu) hp qR.out
  have xZ:Hid (wr.rangeAt p2 (o2+k) [.string y]):=aA (fun j u hu=>by
   cases j with
   |zero=>injection hu with hu;rw[← hu];exact y0
   |succ j=>simp at hu) oy qR.out
  have HPX:=uh (zL hp qR.out.size);have HPY:=uh (zL oy qR.out.size);have dd:(0:Int)≤(k:Int):=by omega
  have de:(k:Int)<(n:Int):=by omega
  obtain⟨b,bD⟩:∃ b,b= !(x.toList==y.toList):=⟨_,rfl⟩
  have iM:(x.toList==y.toList)= !b:=by rw[bD,Bool.not_not]
  have gR:=uh iM;clear hx hy x0 y0 hp oy hc kj bD;go_upto_region 6 with fail
  refine RY.cY wr zR (VEt p o p2 o2 n c1 c2 k x y b) (zI _ _ _ _ _ _ _ _ _ _ _) (by kernel_rfl) (by kernel_rfl) (by kernel_rfl) (by kernel_rfl) ?_ ?_
  ·intro ii o' ho a X hX hk hd;match ii,ho with
   |0,ho=>
    injection ho with ho;subst ho
    have e0:a.tmps[0]?.getD undef=.slice (some ⟨p,o,none⟩) n c1:=(RY.af a 0).trans ((hk 0 (by kernel_rfl)).trans rfl);exact Or.inl ⟨.slice (some ⟨p,o,none⟩) n c1,X,by simp[execOp,go_sem,e0],zR,rfl⟩
   |1,ho=>
    injection ho with ho;subst ho
    have e5:a.tmps[5]?.getD undef=.int .i64 (k:Int):=(RY.af a 5).trans ((hk 5 (by kernel_rfl)).trans rfl);exact Or.inl ⟨.int .i64 (k:Int),X,by simp[execOp,go_sem,e5],zR,rfl⟩
   |2,ho=>
    injection ho with ho;subst ho
    have e16:a.tmps[16]?.getD undef=.slice (some ⟨p,o,none⟩) n c1:=(RY.af a 16).trans (hd 0 _ 16 rfl rfl ⟨⟨0,.data⟩,by simp,rfl,rfl⟩);have e17:a.tmps[17]?.getD undef=.int .i64 (k:Int):=(RY.af a 17).trans (hd 1 _ 17 rfl rfl ⟨⟨1,.data⟩,by simp,rfl,rfl⟩);exact Or.inl ⟨.pointer (some ⟨p,o+k,none⟩),X,by simp[execOp,go_sem,e16,e17,dd,de],zR,rfl⟩
   |3,ho=>
    injection ho with ho;subst ho
    have e18:a.tmps[18]?.getD undef=.pointer (some ⟨p,o+k,none⟩):=(RY.af a 18).trans (hd 2 _ 18 rfl rfl ⟨⟨2,.data⟩,by simp,rfl,rfl⟩);have ypl_:=zL HPX.out hX.size;have ycl_:X.cell? ⟨p,o+k,none⟩=some (.string x):=by have q:=aF (aA eB.out HPX.out hX) 0 _ rfl;simpa using q
    exact Or.inl ⟨.string x,X,by simp[execOp,go_sem,e18,ycl_],zR,rfl⟩
   |4,ho=>
    injection ho with ho;subst ho
    have e1:a.tmps[1]?.getD undef=.slice (some ⟨p2,o2,none⟩) n c2:=(RY.af a 1).trans ((hk 1 (by kernel_rfl)).trans rfl);exact Or.inl ⟨.slice (some ⟨p2,o2,none⟩) n c2,X,by simp[execOp,go_sem,e1],zR,rfl⟩
   |5,ho=>
    injection ho with ho;subst ho
    have e5:a.tmps[5]?.getD undef=.int .i64 (k:Int):=(RY.af a 5).trans ((hk 5 (by kernel_rfl)).trans rfl);exact Or.inl ⟨.int .i64 (k:Int),X,by simp[execOp,go_sem,e5],zR,rfl⟩
   |6,ho=>
    injection ho with ho;subst ho
    have e20:a.tmps[20]?.getD undef=.slice (some ⟨p2,o2,none⟩) n c2:=(RY.af a 20).trans (hd 4 _ 20 rfl rfl ⟨⟨4,.data⟩,by simp,rfl,rfl⟩);have e21:a.tmps[21]?.getD undef=.int .i64 (k:Int):=(RY.af a 21).trans (hd 5 _ 21 rfl rfl ⟨⟨5,.data⟩,by simp,rfl,rfl⟩);exact Or.inl ⟨.pointer (some ⟨p2,o2+k,none⟩),X,by simp[execOp,go_sem,e20,e21,dd,de],zR,rfl⟩
   |7,ho=>
    injection ho with ho;subst ho
    have e22:a.tmps[22]?.getD undef=.pointer (some ⟨p2,o2+k,none⟩):=(RY.af a 22).trans (hd 6 _ 22 rfl rfl ⟨⟨6,.data⟩,by simp,rfl,rfl⟩);have ypl_:=zL HPY.out hX.size;have ycl_:X.cell? ⟨p2,o2+k,none⟩=some (.string y):=by have q:=aF (aA xZ.out HPY.out hX) 0 _ rfl;simpa using q
    exact Or.inl ⟨.string y,X,by simp[execOp,go_sem,e22,ycl_],zR,rfl⟩
   |8,ho=>
    injection ho with ho;subst ho
    have e19:a.tmps[19]?.getD undef=.string x:=(RY.af a 19).trans (hd 3 _ 19 rfl rfl ⟨⟨3,.data⟩,by simp,rfl,rfl⟩);have e23:a.tmps[23]?.getD undef=.string y:=(RY.af a 23).trans (hd 7 _ 23 rfl rfl ⟨⟨7,.data⟩,by simp,rfl,rfl⟩);exact Or.inl ⟨.bool b,X,by simp[execOp,go_sem,e19,e23,iM],zR,rfl⟩
   |n+9,ho=>simp at ho
  intro X vs hX bd;have q24:vs 24=_:=bd 8 _ 24 rfl rfl;simp only[RY.aE,Act.put,List.setIfInBounds_toArray,List.set_cons_zero,List.set_cons_succ];rw[q24];generalize vs 16=s16;generalize vs 17=s17;generalize vs 18=s18;generalize vs 19=s19;generalize vs 20=s20;generalize vs 21=s21;generalize vs 22=s22;generalize vs 23=s23;clear bd q24;have fk:=uh (ai qR.out hX);clear hX iM;cases b
  ·have HE:Hid (R=Pl.gn (A.drop (k+1)) (B.drop (k+1))):=by show R=_;rw[HI.out,HS.out,gR.out];rfl
   go_wp2;go_roundw
   case rel=>exact⟨k+1,by omega,by go_num,HE,fk.out⟩
   case measure=>simp[intOf];omega
  ·have HE:Hid (R=false):=by show R=_;rw[HI.out,HS.out,gR.out];rfl
   go_wp2;go_ret;exact⟨Pl.aB HE.out.symm,fk.out⟩
theorem E8 (kind:ByteArray) (ra:Option Addr) (rc B:Nat) (x:Pl.Ln) (aw:Option Addr) (cw:Nat) (w:World) (hB:aD w B [.slice ra (Pl.aj kind).length rc]) (hr:Raw w [.row 40 aC] [bQ (Pl.aj kind)] [.slice ra (Pl.aj kind).length rc]) (h:Raw w cA [.row x.ws.length (txD x.ws)] [.slice aw x.ws.length cw]):
  Calls Try.prog 48 #[.agg #[.string x.key,.slice aw x.ws.length cw],.pointer (some ⟨B,0,none⟩)] w fun e w'=>e=.returned (.bool (Pl.nJ kind x))∧Bel w w':=by
 have HL:=uh h;obtain⟨R,hR⟩:∃ R,R=Pl.nJ kind x:=⟨_,rfl⟩
 rw[← hR];unfold Pl.nJ at hR;have km:=uh hR;clear hR;have iD:=uh (Pl.cP kind);obtain⟨rs,AX⟩:∃ rs,rs=Pl.aj kind:=⟨_,rfl⟩
 rw[← AX]at hB hr km iD;clear AX;obtain⟨b0,bD⟩:∃ b,b=w.heap.size:=⟨_,rfl⟩
 obtain⟨wa,aS⟩:∃ wa,wa=w.alloc (.cells #[.string x.key,.slice aw x.ws.length cw] 53):=⟨_,rfl⟩
 have HB:Hid (Bel w wa):=by show Below _ _ _;rw[aS];exact ah zR _
 have HX:Hid (aD wa b0 [.string x.key,.slice aw x.ws.length cw]):=by show aD _ _ _;rw[aS,bD];exact aD.new w #[.string x.key,.slice aw x.ws.length cw] _ _ rfl
 have qI:=uh (hB.ae HB.out);have HC:=uh (AA rs ra rc x.key wa wa zR iD.out (hr.ae HB.out));obtain⟨n,hn⟩:∃ n,n=rs.length:=⟨_,rfl⟩
 rw[← hn]at qI HC;clear hB hr h hn;go_enter Try.func48,Try.ntmps48
 go_upto_region 1 with fail
 rw[← aS,← bD];clear aS bD;have x0:=HX.out.get 0 _ rfl;have xl:=HX.out.lt;have k0:=qI.out.get 0 _ rfl;have kl:=qI.out.lt;go_wp2_with fail
 refine HC.out.mono ?_;rintro e w1 ⟨qY,hb⟩;unfold kQ at qY;clear x0 xl k0 kl HC qI;cases jR:Pl.bJ rs x.key with
 |none=>
  rw[jR]at qY;simp only at qY;subst qY;have vM:Hid (R= !Pl.gn x.ws []):=by have:=km.out;rw[jR]at this;exact this
  obtain⟨w3,fy⟩:∃ w3,w3=w1.alloc (.cells #[.string {data:=#[]},.slice none 0 0,.bool false,.slice none 0 0] 40):=⟨_,rfl⟩
  obtain⟨b3,eV⟩:∃ b,b=w1.heap.size:=⟨_,rfl⟩
  have qT:Bel w1 w3:=by rw[fy];exact ah zR _
  have fk:Hid (aD w3 b3 [.string {data:=#[]},.slice none 0 0,.bool false,.slice none 0 0]):=by show aD _ _ _;rw[fy,eV];exact aD.new w1 #[.string {data:=#[]},.slice none 0 0,.bool false,.slice none 0 0] _ _ rfl
  have gu:=ai hb qT;replace HB:=uh (ai HB.out gu)
  replace HX:=uh (HX.out.ae gu)
  clear hb qT gu jR km;go_upto_region 2 with fail
  rw[← fy,← eV];clear fy eV;have JR:=uh (sG x.ws [] (.slice aw x.ws.length cw) (.slice none 0 0) w3 (HL.out.ae HB.out) (.emp _ _ none 0 .nil));have z2:=fk.out.get 2 _ rfl;have z3:=fk.out.get 3 _ rfl;have zl:=fk.out.lt;have x1:=HX.out.get 1 _ rfl;have xl:=HX.out.lt;go_wp2_with (go_at_call 49;refine JR.out.mono ?_;rintro e w' ⟨rfl,Be⟩)
  go_ret;exact⟨Pl.aB vM.out.symm,ai HB.out Be⟩
 |some j=>
 rw[jR]at qY;obtain⟨a1,c1,a3,c3,he,_,qK⟩:=qY;subst he;have vM:Hid (R=((rs.getD j Pl.aO).many|| !Pl.gn x.ws (rs.getD j Pl.aO).dflt)):=by have:=km.out;rw[jR]at this;exact this
 obtain⟨ru,vN⟩:∃ ru,ru=rs.getD j Pl.aO:=⟨_,rfl⟩
 rw[← vN]at vM qK;rw[← vN];obtain⟨w3,fy⟩:∃ w3,w3=w1.alloc (.cells #[.string ru.key,.slice a1 ru.args.length c1,.bool ru.many,.slice a3 ru.dflt.length c3] 40):=⟨_,rfl⟩
 obtain⟨b3,eV⟩:∃ b,b=w1.heap.size:=⟨_,rfl⟩
 have qT:Bel w1 w3:=by rw[fy];exact ah zR _
 have fk:Hid (aD w3 b3 [.string ru.key,.slice a1 ru.args.length c1,.bool ru.many,.slice a3 ru.dflt.length c3]):=by show aD _ _ _;rw[fy,eV];exact aD.new w1 #[.string ru.key,.slice a1 ru.args.length c1,.bool ru.many,.slice a3 ru.dflt.length c3] _ _ rfl
 have gu:=ai hb qT;replace HB:=uh (ai HB.out gu)
 replace HX:=uh (HX.out.ae gu)
 have vK:=uh (qK.ae gu);clear hb qT gu jR km vN qK;go_upto_region 2 with fail
 rw[← fy,← eV];clear fy eV;have JR:=uh (sG x.ws ru.dflt (.slice aw x.ws.length cw) (.slice a3 ru.dflt.length c3) w3 (HL.out.ae HB.out) vK.out);have z2:=fk.out.get 2 _ rfl;have z3:=fk.out.get 3 _ rfl;have zl:=fk.out.lt;have x1:=HX.out.get 1 _ rfl;have xl:=HX.out.lt;cases hm:ru.many
 ·have HE:Hid (R= !Pl.gn x.ws ru.dflt):=by show R=_;rw[vM.out,hm];rfl
  rw[hm]at z2;clear hm;go_wp2_with (go_at_call 49;refine JR.out.mono ?_;rintro e w' ⟨rfl,Be⟩)
  go_ret;exact⟨Pl.aB HE.out.symm,ai HB.out Be⟩
 ·have HE:Hid (R=true):=by show R=_;rw[vM.out,hm];rfl
  rw[hm]at z2;clear hm;go_wp2;go_ret;exact⟨Pl.aB HE.out.symm,HB.out⟩
theorem xg (l:List Pl.Ln) (pr:Pl.Ln→Bool) (v:Value) (B:Nat) (w:World) (h:Raw w aJ [aU l] [v]) (hl:l.length≤4194304)
  (hF:∀ (x:Pl.Ln) (aw:Option Addr) (cw:Nat) (W:World),x∈l→Bel w W→Raw W cA [.row x.ws.length (txD x.ws)] [.slice aw x.ws.length cw]→Calls Try.prog 48 #[.agg #[.string x.key,.slice aw x.ws.length cw],.pointer (some ⟨B,0,none⟩)] W fun e w'=>e=.returned (.bool (pr x))∧Bel W w'):
  Calls Try.prog 47 #[v,.func (.func 48) #[] #[.pointer (some ⟨B,0,none⟩)]] w (Ct aJ (aU (l.filter pr)) w):=by
 have HL:=uh h;have HF:=uh hF;obtain⟨va,vc,ev⟩:=h.aP;subst ev;clear h hF;obtain⟨n,hn⟩:∃ n,n=l.length:=⟨_,rfl⟩
 have HN:=uh hn;have eD:l.length=n:=hn.symm;clear hn;rw[eD]at hl;rw[eD];clear eD;go_enter Try.func47,Try.ntmps47
 go_wp2;go_loopw [5,10] (fun vo vi wr=>∃ (k:Nat) (xs:List Value),k≤n∧vi=.int .i64 k∧Sv w wr 53 au vo ((l.take k).filter pr).length (((l.take k).filter pr).flatMap lnD) xs∧Bel w wr) (fun _ vi _=>n - (intOf vi).toNat)
 case atStart=>exact⟨0,[],zN,rfl,⟨(Gr.nil w w.heap.size _ au).row,.nil⟩,zR⟩
 case round=>
  obtain⟨k,xs,hk,rfl,hG,hB⟩:=hrel;have fF:=uh hG;have dV:=uh hB;obtain⟨ua,uc,xK⟩:=hG.shape;subst xK;clear hG hB;by_cases bN:k<n
  rotate_left
  ·have kg:l.take k=l:=List.take_of_length_le (by have:=HN.out;omega);rw[kg]at fF ⊢;have HD:Hid (Ct aJ (aU (l.filter pr)) w (.returned (.slice ua (l.filter pr).length uc)) wr):=⟨_,rfl,fF.out.done dV.out,dV.out⟩
   clear kg;go_wp2;go_ret;exact HD.out
  have eP:k<l.length:=by have:=HN.out;omega
  rcases cX HL.out with⟨e0,_⟩|⟨p,o,c,hv,hp,ec,aZ⟩
  ·omega
  rw[← HN.out]at hv;injection hv with g1 _ g3
  subst g1;subst g3;obtain⟨aw,cw,dO,dF⟩:=aZ k eP;have jJ:=uh (nv (pr:=pr) eP);have hle:((l.take k).filter pr).length≤n:=Nat.le_trans (List.length_filter_le _ _) (by rw[List.length_take];omega);have Bf:Hid (l.getD k Pl.aQ∈l):=by
   show _∈_;have e:l.getD k Pl.aQ=l[k]:=by simp[eP]
   rw[e];exact List.getElem_mem eP
  obtain⟨x,hx⟩:∃ x,x=l.getD k Pl.aQ:=⟨_,rfl⟩
  rw[← hx]at dO dF jJ Bf;have cN:wr.rangeAt p (o+k*2) [.string x.key,.slice aw x.ws.length cw]:=aA dO hp dV.out;have jQ:Hid (Raw w au (lnD x) [.string x.key,.slice aw x.ws.length cw]):=.s _ dF;obtain⟨m,hm⟩:∃ m,m=((l.take k).filter pr).length:=⟨_,rfl⟩
  rw[← hm]at fF hle ⊢;have HM:=uh hm;have dd:(0:Int)≤(k:Int):=by omega
  have de:(k:Int)<(n:Int):=by omega
  obtain⟨y,hy⟩:∃ y,y=wr.alloc (.cells #[.string x.key,.slice aw x.ws.length cw] 53):=⟨_,rfl⟩
  have fQ:Bel wr y:=by rw[hy];exact ah zR _
  obtain⟨z0,ee⟩:∃ z,z=wr.heap.size:=⟨_,rfl⟩
  have HG:Hid (aD y z0 [.string x.key,.slice aw x.ws.length cw]):=by show aD _ _ _;rw[hy];exact aD.new _ #[.string x.key,.slice aw x.ws.length cw] _ _ ee
  have HC:=uh (HF.out x aw cw y Bf.out (ai dV.out fQ) (dF.ae (ai dV.out fQ)));clear hx dO dF aZ ec hm;go_upto_region 5 with(refine wpList_load_mid rfl 53 _ rfl p (o+k*2) rfl [.string x.key,.slice aw x.ws.length cw] _ cN Try.underlying53 rfl (by kernel_rfl) ?_)
  rw[← hy,← ee];clear hy cN hp;replace fF:=uh (fF.out.ae fQ)
  replace dV:=uh (ai dV.out fQ)
  clear fQ ee;have pT:=HG.out.lt;have qP:=HG.out.at_;go_wp2_with (refine wpList_load_mid rfl 53 _ rfl z0 0 rfl [.string x.key,.slice aw x.ws.length cw] _ qP Try.underlying53 rfl (by kernel_rfl) ?_)
  refine HC.out.mono ?_;rintro e w1 ⟨rfl,bZ⟩;replace fF:=uh (fF.out.ae bZ)
  replace dV:=uh (ai dV.out bZ)
  replace HG:=uh (HG.out.ae bZ)
  clear bZ pT qP HC;cases hq:pr x
  ·have HE:Hid ((l.take (k+1)).filter pr=(l.take k).filter pr):=by show _=_;rw[jJ.out,hq];rfl
   clear hq;go_wp2;go_roundw
   case rel=>exact⟨k+1,xs,by omega,by go_num,by rw[HE.out,← HM.out];exact fF.out,dV.out⟩
   case measure=>simp[intOf];omega
  ·have HE:Hid ((l.take (k+1)).filter pr=(l.take k).filter pr++[x]):=by show _=_;rw[jJ.out,hq];rfl
   clear hq;have pT:=HG.out.lt;have qP:=HG.out.at_;go_wp2_with first|refine wpList_load_mid rfl 53 _ rfl z0 0 rfl [.string x.key,.slice aw x.ws.length cw] _ qP Try.underlying53 rfl (by kernel_rfl) ?_|(refine kJ (wa:=w) rfl _ _ rfl (.slice ua m uc) m _ xs rfl (fF.out.ae (ah zR _)) w1.heap.size 1 (lnD x) [.string x.key,.slice aw x.ws.length cw] rfl jQ.out (World.news_of_block (cs:=#[.string x.key,.slice aw x.ws.length cw]) (heap_alloc_new w1 _)) (by omega) (Nat.le_trans dV.out.size (by simp)) ?_;intro gg1 KO w2 q1 q2;have HQ:=uh (And.intro q1 (fF.out.ae (ah zR _)|>.below (ah dV.out _) q2));clear q1 q2)
   go_roundw
   case rel=>exact⟨k+1,_,by omega,by go_num,by rw[HE.out,List.length_append,← HM.out,List.flatMap_append,List.flatMap_singleton];exact HQ.out.1,HQ.out.2⟩
   case measure=>simp[intOf];omega
theorem zJ (kind:ByteArray) (ra:Option Addr) (rc:Nat) (l:List Pl.Ln) (v:Value) (w:World) (hr:Raw w [.row 40 aC] [bQ (Pl.aj kind)] [.slice ra (Pl.aj kind).length rc]) (h:Raw w aJ [aU l] [v]) (hl:l.length≤1048576) (hw:∀ x∈l,x.ws.length≤4194304):
  Calls Try.prog 21 #[.agg #[.slice ra (Pl.aj kind).length rc],v] w (fe aJ (aU (Pl.trimmed kind l)) w):=by
 obtain⟨b0,bD⟩:∃ b,b=w.heap.size:=⟨_,rfl⟩
 obtain⟨wa,aS⟩:∃ wa,wa=w.alloc (.cells #[.slice ra (Pl.aj kind).length rc] 64):=⟨_,rfl⟩
 have HB:Hid (Bel w wa):=by show Below _ _ _;rw[aS];exact ah zR _
 have cu:Hid (aD wa b0 [.slice ra (Pl.aj kind).length rc]):=by show aD _ _ _;rw[aS,bD];exact aD.new w #[.slice ra (Pl.aj kind).length rc] _ _ rfl
 have HC:=uh (xg l (Pl.nJ kind) v b0 wa (h.ae HB.out) (by omega) (fun x aw cw X _ hX hx=>E8 kind ra rc b0 x aw cw X (cu.out.ae hX) (hr.ae (ai HB.out hX)) hx));have EO:Hid ((Pl.trimmed kind l).length≤4194304):=Nat.le_trans (List.length_filter_le _ _) (by omega);have vT:Hid (∀ x∈Pl.trimmed kind l,x.ws.length≤4194304):=fun x hx=>hw x (List.mem_filter.1 hx).1;obtain⟨va,vc,ev⟩:=h.aP;subst ev;obtain⟨n,hn⟩:∃ n,n=(Pl.aj kind).length:=⟨_,rfl⟩
 rw[← hn]at aS;rw[← hn];clear h hl hw hr hn;obtain⟨o,ho⟩:∃ o,o=Pl.trimmed kind l:=⟨_,rfl⟩
 have HO:Hid (l.filter (Pl.nJ kind)=o):=ho.symm;rw[← ho]at EO vT;rw[← ho];clear ho;go_enter Try.func21,Try.ntmps21
 go_upto_region 1 with fail
 rw[← aS,← bD];clear aS bD;go_wp2_with fail
 refine HC.out.mono ?_;rintro e w1 ⟨v1,rfl,hr,hb⟩;rw[HO.out]at hr;have j9:=uh (nM o v1 w1 hr EO.out vT.out);replace HB:=uh (ai HB.out hb)
 clear hr hb HC;go_wp2_with fail
 refine j9.out.mono ?_;rintro e w2 ⟨v2,F,rfl,r,nd,fr,hb⟩;have HD:Hid (fe aJ (aU o) w (.returned v2) w2):=⟨_,F,rfl,r,nd,fun b fE=>Nat.le_trans HB.out.size (fr b fE),ai HB.out hb⟩
 clear r nd fr hb;go_wp2;go_ret;exact HD.out
theorem CW (x:Pl.Bl) (aw:Option Addr) (cw B1 B2 mb:Nat) (vt vb vs:Value) (X:World) (h1:X.cell? ⟨B1,0,none⟩=some (.func (.func 21) #[] #[])) (jg:B1<X.heap.size) (h2:X.cell? ⟨B2,0,none⟩=some (.map (some mb))) (my:B2<X.heap.size) (hk:Kn X mb vt vb vs) (h:Raw X aJ [aU x.lines] [.slice aw x.lines.length cw]) (jS:x.lines.length≤1048576∧∀ y∈x.lines,y.ws.length≤4194304):
  Calls Try.prog 45 #[.agg #[.string x.kind,.string x.name,.slice aw x.lines.length cw],.pointer (some ⟨B1,0,none⟩),.pointer (some ⟨B2,0,none⟩)] X (Ans ar (blD ⟨x.kind,x.name,Pl.trimmed x.kind x.lines⟩) X):=by
 obtain⟨b0,bD⟩:∃ b,b=X.heap.size:=⟨_,rfl⟩
 obtain⟨wa,aS⟩:∃ wa,wa=(X.alloc (.cells #[.string x.kind,.string x.name,.slice aw x.lines.length cw] 32)).alloc (.cells #[.string {data:=#[]},.string {data:=#[]},.slice none 0 0] 32):=⟨_,rfl⟩
 have HB:Hid (Bel X wa):=by show Below _ _ _;rw[aS];exact ah (ah zR _) _
 have HX:Hid (aK wa b0 32 [.string x.kind,.string x.name,.slice aw x.lines.length cw]):=by show aK _ _ _ _;rw[aS,bD];exact(aK.new X [.string x.kind,.string x.name,.slice aw x.lines.length cw] _ _ rfl).ae (ah zR _)
 have HO:Hid (aL wa (b0+1) 32 3):=by show aL _ _ _ _;rw[aS];exact aL.er _ _ _ _ _ rfl (by simp[bD])
 have ZA:Hid (wa.heap.size=b0+2):=by show _=_;rw[aS];simp[bD]
 have HZ:=uh bD;obtain⟨ra,rc,oE,kZ⟩:=(hk.ae HB.out).look x.kind;have HC:=uh (zJ x.kind ra rc x.lines (.slice aw x.lines.length cw) wa kZ (h.ae HB.out) jS.1 jS.2);have y1:wa.cell? ⟨B1,0,none⟩=some (.func (.func 21) #[] #[]):=(HB.out.cell (p:=⟨B1,0,none⟩) jg).trans h1;have y2:wa.cell? ⟨B2,0,none⟩=some (.map (some mb)):=(HB.out.cell (p:=⟨B2,0,none⟩) my).trans h2;have yl1:B1<wa.heap.size:=zL jg HB.out.size;have yl2:B2<wa.heap.size:=zL my HB.out.size;obtain⟨rn,FY⟩:∃ rn,rn=(Pl.aj x.kind).length:=⟨_,rfl⟩
 rw[← FY]at oE HC;clear FY;obtain⟨o,ho⟩:∃ o,o=Pl.trimmed x.kind x.lines:=⟨_,rfl⟩
 rw[← ho]at HC;rw[← ho];clear ho;go_enter Try.func45,Try.ntmps45
 go_upto_region 1 with fail
 rw[← aS,← bD];clear aS bD h1 h2 hk h jS kZ jg my;have x0:=HX.out.get 0 _ rfl;have x2:=HX.out.get 2 _ rfl;have xl:=HX.out.own.lt;go_wp2_with fail
 refine HC.out.mono ?_;rintro e w1 ⟨v1,F,rfl,r,nd,fr,hb⟩;obtain⟨wx,wc,ot⟩:=r.raw.aP;subst ot;have HR:=uh (And.intro r (And.intro nd fr));have kk:=HX.out.ae hb;obtain⟨y,hy⟩:∃ y,y=w1.setCell ⟨b0,2,none⟩ (.slice wx o.length wc):=⟨_,rfl⟩
 have pS:Hid (aK y b0 32 [.string x.kind,.string x.name,.slice wx o.length wc]):=by show aK _ _ _ _;rw[hy];exact kk.set 2 _ (by simp)
 have HM:Hid (Marks (fun b=>b=b0) w1 y):=by show Marks _ _ _;rw[hy];exact Marks.sc (S:=fun b=>b=b0) _ rfl _ _
 have fC:=uh (HM.out.own _ _ _ (HO.out.ae hb));have gQ:Hid (Bel X y):=HM.out.below (fun b e=>by rw[e,HZ.out];exact zE) (ai HB.out hb);have HF:Hid (∀ b∈F,b0+2≤b):=fun b hb=>by have:=HR.out.2.2 b hb;have:=ZA.out;omega
 have z2:=kk.get 2 _ rfl;have zf:=kk.own.frozen 2;have zz:=kk.own.lt;clear r nd fr hb x0 x2 xl oE y1 y2 yl1 yl2;go_upto_region 2 with fail
 rw[← hy];clear hy z2 zf zz kk HC;have lf:=pS.out.own.lt;have jH:=pS.out.at_;have bG:y.there (b0+1) 0 (#[.string x.kind,.string x.name,.slice wx o.length wc]:Array Value).size:=aR fC.out _ _ (by simp);obtain⟨we,bj⟩:∃ we,we=y.setCells (b0+1) 0 [.string x.kind,.string x.name,.slice wx o.length wc]:=⟨_,rfl⟩
 have dv:we.rangeAt (b0+1) 0 [.string x.kind,.string x.name,.slice wx o.length wc]:=by rw[bj];exact World.rangeAt_setCells_same _ _ _ _ bG
 have oB:Hid (Marks (fun b=>b=b0+1) y we):=by show Marks _ _ _;rw[bj];exact aN (S:=fun b=>b=b0+1) rfl _ _ _
 have gR:Hid (Bel X we):=by show Below _ _ _;rw[bj];exact cG (by have:=HZ.out;omega) _ _ _ gQ.out
 go_wp2_with (first|(refine wpList_load_mid rfl 32 _ rfl b0 0 rfl [.string x.kind,.string x.name,.slice wx o.length wc] _ jH Try.underlying32 rfl (by kernel_rfl) ?_)|(refine wpList_store_mid rfl 32 _ _ rfl (b0+1) 0 #[.string x.kind,.string x.name,.slice wx o.length wc] rfl rfl bG (by kernel_rfl) (by simp[Value.oneCell']) ?_))
 first|rw[← bj]|(simp only[List.toList_toArray];rw[← bj])
 try simp only[Act.put]
 refine bodyPost_ret (v:=.agg #[.string x.kind,.string x.name,.slice wx o.length wc]) (by simp[results,Try.results45,asAddr,run_loadVar_mid (P:=Try.prog) _ _ _ 32 [.string x.kind,.string x.name,.slice wx o.length wc] _ dv Try.underlying32 rfl (by kernel_rfl)]) rfl ?_;have M1:=HR.out.1.aY HM.out (fun b hb e=>by have:=HF.out b hb;omega);have M2:=M1.aY oB.out (fun b hb e=>by have:=HF.out b hb;omega);refine⟨[.string x.kind,.string x.name,.slice wx o.length wc],F++[],rfl,bB _ _ M2,by rw[List.append_nil];exact HR.out.2.1,fun b hb=>by rw[List.append_nil]at hb;have:=HF.out b hb;have:=HZ.out;omega,gR.out⟩
theorem zF (s:List Pl.Bl) (v:Value) (w:World) (h:Raw w aV [aW s] [v]) (hz:kr s) (hw:Pl.wsh s≤1048576):
  Calls Try.prog 19 #[.agg #[v],.func (.func 21) #[] #[]] w (Ans bX [aW (if Pl.aM s then s.map (fun x=>⟨x.kind,x.name,Pl.trimmed x.kind x.lines⟩) else [])] w):=by
 have HL:=uh h;have jD:=uh (fH s hw);have jI:=uh (fun hv:Pl.aM s=true=>gY hv);obtain⟨va,vc,ev⟩:=h.aP;subst ev;have vL:=uh (fun X (hX:Bel w X)=>gE s (.slice va s.length vc) X (h.ae hX) hz (by rw[gU];exact hw));clear h hz hw;obtain⟨n,hn⟩:∃ n,n=s.length:=⟨_,rfl⟩
 have HN:=uh hn;have eD:s.length=n:=hn.symm;clear hn;rw[eD]at vL jI;rw[eD];clear eD;obtain⟨R,hR⟩:∃ R,R=(if Pl.aM s then s.map (fun x:Pl.Bl=>(⟨x.kind,x.name,Pl.trimmed x.kind x.lines⟩:Pl.Bl)) else []):=⟨_,rfl⟩
 rw[← hR];obtain⟨vb0,Bz⟩:∃ x,x=Pl.aM s:=⟨_,rfl⟩
 rw[← Bz]at vL jI hR;have vM:=uh hR;clear hR Bz;obtain⟨b0,bD⟩:∃ b,b=w.heap.size:=⟨_,rfl⟩
 have HZ:=uh bD;obtain⟨wa,aS⟩:∃ wa,wa=((w.alloc (.cells #[.slice va n vc] 25)).alloc (.cells #[.func (.func 21) #[] #[]] 49)).alloc (.cells #[.slice none 0 0] 25):=⟨_,rfl⟩
 have HB:Hid (Bel w wa):=by show Below _ _ _;rw[aS];exact ah (ah (ah zR _) _) _
 have cu:Hid (aD wa b0 [.slice va n vc]):=by show aD _ _ _;rw[aS,bD];exact((aD.new w #[.slice va n vc] _ _ rfl).fI _).fI _
 have fz:Hid (aD wa (b0+1) [.func (.func 21) #[] #[]]):=by show aD _ _ _;rw[aS];exact(aD.new _ #[.func (.func 21) #[] #[]] _ _ (by simp[bD])).fI _
 have HO:Hid (aL wa (b0+2) 25 1):=by show aL _ _ _ _;rw[aS];exact aL.er _ _ _ _ _ rfl (by simp[bD])
 have ZA:Hid (wa.heap.size=b0+3):=by show _=_;rw[aS];simp[bD]
 go_enter Try.func19,Try.ntmps19
 go_upto_region 1 with fail
 rw[← aS,← bD];clear aS bD;have x0:=cu.out.get 0 _ rfl;have xl:=cu.out.lt;go_wp2_with fail
 refine(vL.out _ HB.out).mono ?_;rintro e w1 ⟨rfl,bZ⟩;have Bo:Hid (b0+3≤w1.heap.size):=by have:=ZA.out;have:=bZ.size;show _≤_;omega
 replace HB:=uh (ai HB.out bZ)
 replace cu:=uh (cu.out.ae bZ)
 replace fz:=uh (fz.out.ae bZ)
 replace HO:=uh (HO.out.ae bZ)
 clear bZ x0 xl vL ZA;cases vb0
 ·have DV:Hid (R=[]):=vM.out;obtain⟨oc,hoc⟩:=HO.out.cell 0 (by decide);have of:=HO.out.frozen 0;have ol:=HO.out.lt;have bG:w1.there (b0+2) 0 (#[.slice none 0 0]:Array Value).size:=aR HO.out _ _ (by simp);obtain⟨we,bj⟩:∃ we,we=w1.setCells (b0+2) 0 [.slice none 0 0]:=⟨_,rfl⟩
  have dv:we.rangeAt (b0+2) 0 [.slice none 0 0]:=by rw[bj];exact World.rangeAt_setCells_same _ _ _ _ bG
  have gR:Hid (Bel w we):=by show Below _ _ _;rw[bj];exact cG (by have:=HZ.out;omega) _ _ _ HB.out
  go_wp2_with (refine wpList_store_mid rfl 25 _ _ rfl (b0+2) 0 #[.slice none 0 0] rfl rfl bG (by kernel_rfl) (by simp[Value.oneCell']) ?_)
  first|rw[← bj]|(simp only[List.toList_toArray];rw[← bj])
  try simp only[Act.put]
  refine bodyPost_ret (v:=.agg #[.slice none 0 0]) (by simp[results,Try.results19,asAddr,run_loadVar_mid (P:=Try.prog) _ _ _ 25 [.slice none 0 0] _ dv Try.underlying25 rfl (by kernel_rfl)]) rfl ?_;rw[DV.out];exact⟨[.slice none 0 0],[],rfl,.emp _ _ _ rfl .nil,List.nodup_nil,by simp,gR.out⟩
 replace jI:=uh (jI.out rfl)
 have DV:Hid (R=s.map (fun x:Pl.Bl=>(⟨x.kind,x.name,Pl.trimmed x.kind x.lines⟩:Pl.Bl))):=vM.out;have tB:=uh (Ab w1);go_wp2_with fail
 refine tB.out.mono ?_;rintro e w2 ⟨mb,vt,vb,vs,rfl,de,hb⟩;obtain⟨w3,fy⟩:∃ w3,w3=w2.alloc (.cells #[.map (some mb)] 61):=⟨_,rfl⟩
 obtain⟨b3,eV⟩:∃ b,b=w2.heap.size:=⟨_,rfl⟩
 have qT:Bel w2 w3:=by rw[fy];exact ah zR _
 have mg:Hid (aD w3 b3 [.map (some mb)]):=by show aD _ _ _;rw[fy,eV];exact aD.new w2 #[.map (some mb)] _ _ rfl
 have HK:=uh (de.ae qT);have gu:=ai hb qT;replace HB:=uh (ai HB.out gu)
 replace cu:=uh (cu.out.ae gu)
 replace fz:=uh (fz.out.ae gu)
 replace HO:=uh (HO.out.ae gu)
 replace Bo:=uh (Nat.le_trans Bo.out gu.size)
 clear de hb qT gu tB;go_upto_region 4 with fail
 rw[← fy,← eV];clear fy eV;have HC:=uh (rS s (.slice va n vc) (b0+1) b3 w3 (by rw[HN.out];exact HL.out.ae HB.out) (by have:=jI.out;have:=HN.out;omega) (fun x=>⟨x.kind,x.name,Pl.trimmed x.kind x.lines⟩) (fun x aw cw X hx hX hr=>CW x aw cw (b0+1) b3 mb vt vb vs X ((fz.out.ae hX).get 0 _ rfl) (fz.out.ae hX).lt ((mg.out.ae hX).get 0 _ rfl) (mg.out.ae hX).lt (HK.out.ae hX) hr (jD.out x hx)));have x0:=cu.out.get 0 _ rfl;have xl:=cu.out.lt;go_wp2_with fail
 refine HC.out.mono ?_;rintro e w4 ⟨v4,F,rfl,r,nd,fr,hb⟩;obtain⟨a4,c4,D1⟩:=r.raw.aP;subst D1;have HR:=uh (And.intro r (And.intro nd fr));replace HO:=uh (HO.out.ae hb)
 replace HB:=uh (ai HB.out hb)
 have HF:Hid (∀ b∈F,b0+3≤b):=fun b hb=>Nat.le_trans Bo.out (HR.out.2.2 b hb);clear r nd fr hb x0 xl HC;obtain⟨q,hq⟩:∃ q,q=(s.map (fun x:Pl.Bl=>(⟨x.kind,x.name,Pl.trimmed x.kind x.lines⟩:Pl.Bl))):=⟨_,rfl⟩
 rw[← hq]at HR DV;rw[← hq];clear hq;have bG:w4.there (b0+2) 0 (#[.slice a4 q.length c4]:Array Value).size:=aR HO.out _ _ (by simp);obtain⟨we,bj⟩:∃ we,we=w4.setCells (b0+2) 0 [.slice a4 q.length c4]:=⟨_,rfl⟩
 have dv:we.rangeAt (b0+2) 0 [.slice a4 q.length c4]:=by rw[bj];exact World.rangeAt_setCells_same _ _ _ _ bG
 have oB:Hid (Marks (fun b=>b=b0+2) w4 we):=by show Marks _ _ _;rw[bj];exact aN (S:=fun b=>b=b0+2) rfl _ _ _
 have gR:Hid (Bel w we):=by show Below _ _ _;rw[bj];exact cG (by have:=HZ.out;omega) _ _ _ HB.out
 go_wp2_with (refine wpList_store_mid rfl 25 _ _ rfl (b0+2) 0 #[.slice a4 q.length c4] rfl rfl bG (by kernel_rfl) (by simp[Value.oneCell']) ?_)
 first|rw[← bj]|(simp only[List.toList_toArray];rw[← bj])
 try simp only[Act.put]
 refine bodyPost_ret (v:=.agg #[.slice a4 q.length c4]) (by simp[results,Try.results19,asAddr,run_loadVar_mid (P:=Try.prog) _ _ _ 25 [.slice a4 q.length c4] _ dv Try.underlying25 rfl (by kernel_rfl)]) rfl ?_;have M2:=HR.out.1.aY oB.out (fun b hb e=>by have:=HF.out b hb;omega);rw[DV.out];exact⟨[.slice a4 q.length c4],F,rfl,M2,HR.out.2.1,fun b hb=>by have:=HF.out b hb;have:=HZ.out;omega,gR.out⟩
theorem Cu (s:List Pl.Bl) (v:Value) (w:World) (h:Raw w aV [aW s] [v]) (hz:kr s) (hw:Pl.wsh s≤1048576):
  Calls Try.prog 6 #[.agg #[v]] w (Ans bX [aW (if Pl.aM s then s.map (fun x=>⟨x.kind,x.name,Pl.trimmed x.kind x.lines⟩) else [])] w):=by
 obtain⟨va,vc,ev⟩:=h.aP;subst ev;obtain⟨n,hn⟩:∃ n,n=s.length:=⟨_,rfl⟩
 obtain⟨b0,bD⟩:∃ b,b=w.heap.size:=⟨_,rfl⟩
 have HZ:=uh bD;rw[← hn]at h;rw[← hn];obtain⟨wa,aS⟩:∃ wa,wa=(w.alloc (.cells #[.slice va n vc] 25)).alloc (.cells #[.slice none 0 0] 25):=⟨_,rfl⟩
 have HB:Hid (Bel w wa):=by show Below _ _ _;rw[aS];exact ah (ah zR _) _
 have cu:Hid (aD wa b0 [.slice va n vc]):=by show aD _ _ _;rw[aS,bD];exact(aD.new w #[.slice va n vc] _ _ rfl).fI _
 have HO:Hid (aL wa (b0+1) 25 1):=by show aL _ _ _ _;rw[aS];exact aL.er _ _ _ _ _ rfl (by simp[bD])
 have ZA:Hid (wa.heap.size=b0+2):=by show _=_;rw[aS];simp[bD]
 have HC:=uh (zF s (.slice va n vc) wa (h.ae HB.out) hz hw);clear hn h hz hw;obtain⟨q,hq⟩:∃ q,q=(if Pl.aM s then s.map (fun x:Pl.Bl=>(⟨x.kind,x.name,Pl.trimmed x.kind x.lines⟩:Pl.Bl)) else []):=⟨_,rfl⟩
 rw[← hq]at HC;rw[← hq];clear hq;go_enter Try.func6,Try.ntmps6
 go_upto_region 1 with fail
 rw[← aS,← bD];clear aS bD;have xa:=cu.out.at_;have x0:=cu.out.get 0 _ rfl;have xl:=cu.out.lt;go_wp2_with fail
 refine HC.out.mono ?_;rintro e w4 ⟨cc,F,rfl,r0,nd,fr,hb⟩;obtain⟨F0,v4,yg,rfl,r⟩:=du r0;rw[List.append_nil]at yg;subst yg;obtain⟨a4,c4,D1⟩:=r.raw.aP;subst D1;have HR:=uh (And.intro r (And.intro nd fr));replace HO:=uh (HO.out.ae hb)
 replace HB:=uh (ai HB.out hb)
 have HF:Hid (∀ b∈F,b0+2≤b):=fun b hb=>by have:=ZA.out;have:=HR.out.2.2 b hb;omega
 clear r r0 nd fr hb x0 xl xa HC;have bG:w4.there (b0+1) 0 (#[.slice a4 q.length c4]:Array Value).size:=aR HO.out _ _ (by simp);obtain⟨we,bj⟩:∃ we,we=w4.setCells (b0+1) 0 [.slice a4 q.length c4]:=⟨_,rfl⟩
 have dv:we.rangeAt (b0+1) 0 [.slice a4 q.length c4]:=by rw[bj];exact World.rangeAt_setCells_same _ _ _ _ bG
 have oB:Hid (Marks (fun b=>b=b0+1) w4 we):=by show Marks _ _ _;rw[bj];exact aN (S:=fun b=>b=b0+1) rfl _ _ _
 have gR:Hid (Bel w we):=by show Below _ _ _;rw[bj];exact cG (by have:=HZ.out;omega) _ _ _ HB.out
 go_wp2_with (refine wpList_store_mid rfl 25 _ _ rfl (b0+1) 0 #[.slice a4 q.length c4] rfl rfl bG (by kernel_rfl) (by simp[Value.oneCell']) ?_)
 first|rw[← bj]|(simp only[List.toList_toArray];rw[← bj])
 try simp only[Act.put]
 refine bodyPost_ret (v:=.agg #[.slice a4 q.length c4]) (by simp[results,Try.results6,asAddr,run_loadVar_mid (P:=Try.prog) _ _ _ 25 [.slice a4 q.length c4] _ dv Try.underlying25 rfl (by kernel_rfl)]) rfl ?_;have M2:=HR.out.1.aY oB.out (fun b hb e=>by have:=HF.out b hb;omega);exact⟨[.slice a4 q.length c4],F,rfl,M2,HR.out.2.1,fun b hb=>by have:=HF.out b hb;have:=HZ.out;omega,gR.out⟩
end Go.Proofs.Ytmgibmmpopoboaa
