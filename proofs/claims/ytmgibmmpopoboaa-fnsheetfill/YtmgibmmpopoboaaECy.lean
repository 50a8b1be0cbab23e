import Derived.Test.YtmgibmmpopoboaaECl
import Derived.Test.YtmgibmmpopoboaaRgFs
namespace Go.Proofs.Ytmgibmmpopoboaa
set_option maxRecDepth 8000
set_option maxHeartbeats 40000000
open Go.RowKit Go.Deep
theorem xe (b:Pl.Bl) (lv:Value) (w:World) (h:Raw w aJ [aU b.lines] [lv]) (hl:b.lines.length≤4194304) (hw:∀ x∈b.lines,x.ws.length≤4194304):
  Calls Try.prog 51 #[.agg #[.string b.kind,.string b.name,lv]] w (Ans ar (blD b) w):=by
 obtain⟨va,vc,ev⟩:=h.aP;subst ev;obtain⟨n,hn⟩:∃ n,n=b.lines.length:=⟨_,rfl⟩
 rw[← hn]at h ⊢;obtain⟨wa,aS⟩:∃ wa,wa=(w.alloc (.cells #[.string b.kind,.string b.name,.slice va n vc] 32)).alloc (.cells #[.string {data:=#[]},.string {data:=#[]},.slice none 0 0] 32):=⟨_,rfl⟩
 have gh:Bel w wa:=by rw[aS];exact ah (ah zR _) _
 have Di:wa.heap.size=w.heap.size+2:=by rw[aS];simp
 have HX:Hid (aK wa w.heap.size 32 [.string b.kind,.string b.name,.slice va n vc]):=by
  show aK _ _ _ _;rw[aS];exact(aK.new w [.string b.kind,.string b.name,.slice va n vc] 32 _ rfl).ae (ah zR _)
 have HR:Hid (aK wa (w.heap.size+1) 32 [.string {data:=#[]},.string {data:=#[]},.slice none 0 0]):=by
  show aK _ _ _ _;rw[aS];exact aK.new (w.alloc (.cells #[.string b.kind,.string b.name,.slice va n vc] 32)) [.string {data:=#[]},.string {data:=#[]},.slice none 0 0] 32 _ (by simp)
 have HC:=uh (pf b.lines _ wa (h.ae gh) hl hw);have jP:=uh gh;have vV:=uh Di;clear h hl hw hn gh Di;go_enter Try.func51,Try.ntmps51
 go_upto_region 1 with fail
 rw[← aS];clear aS;obtain⟨b0,bD⟩:∃ b0,b0=w.heap.size:=⟨_,rfl⟩
 rw[← bD]at HX HR vV ⊢;have cu:=uh bD;clear bD;have x2:=HX.out.get 2 _ rfl;have xl:=HX.out.own.lt;go_wp2_with fail
 refine HC.out.mono ?_;rintro e w1 ⟨v1,F,rfl,hr,nd,lo,hb⟩;obtain⟨a1,c1,jK⟩:=hr.raw.aP;subst jK;clear x2 xl HC;have H1:=uh (HX.out.ae hb);have H2:=uh (HR.out.ae hb);have mi:=uh (And.intro hr (And.intro nd lo));have fz:=uh hb;clear hr nd lo hb HX HR;have x2:=H1.out.get 2 _ rfl;have xl:=H1.out.own.lt;have xf:=H1.out.own.frozen 2;go_upto_region 2 with fail
 clear x2 xl xf;obtain⟨w2,kX⟩:∃ w2,w2=w1.setCell ⟨b0,2,none⟩ (.slice a1 b.lines.length c1):=⟨_,rfl⟩
 have H3:Hid (aK w2 b0 32 [.string b.kind,.string b.name,.slice a1 b.lines.length c1]):=by show aK _ _ _ _;rw[kX];exact H1.out.set 2 (.slice a1 b.lines.length c1) (by simp)
 have H4:Hid (aK w2 (b0+1) 32 [.string {data:=#[]},.string {data:=#[]},.slice none 0 0]):=by show aK _ _ _ _;rw[kX];exact H2.out.other (by omega) _ _
 have Et:Hid (Marks (fun b=>b=b0) w1 w2):=by show Marks _ _ _;rw[kX];exact Marks.sc (S:=fun b=>b=b0) w1 rfl 2 (.slice a1 b.lines.length c1)
 rw[← kX];clear kX H1 H2;have jH:=H3.out.at_;have lf:=H3.out.own.lt;have uQ:=H4.out.own.lt;have bG:w2.there (b0+1) 0 (#[.string b.kind,.string b.name,.slice a1 b.lines.length c1]:Array Value).size:=aR H4.out.own _ _ (by simp);obtain⟨we,bj⟩:∃ we,we=w2.setCells (b0+1) 0 [.string b.kind,.string b.name,.slice a1 b.lines.length c1]:=⟨_,rfl⟩
 have dv:we.rangeAt (b0+1) 0 [.string b.kind,.string b.name,.slice a1 b.lines.length c1]:=by rw[bj];exact World.rangeAt_setCells_same _ _ _ _ bG
 have iB:Hid (Marks (fun b=>b=b0+1) w2 we):=by show Marks _ _ _;rw[bj];exact aN (S:=fun b=>b=b0+1) rfl _ _ _
 have Jq:∀ x∈ [Value.string b.kind,.string b.name,.slice a1 b.lines.length c1],x.oneCell'=true:=fun x hx=>(lA b.kind b.name mi.out.1.raw).one x hx;have hon:=all_oneCell_toArray Jq;clear Jq;go_wp2_with (first|(refine wpList_load_mid rfl 32 _ rfl b0 0 rfl [.string b.kind,.string b.name,.slice a1 b.lines.length c1] _ jH Try.underlying32 rfl (by kernel_rfl) ?_)|(refine wpList_store_mid rfl 32 _ _ rfl (b0+1) 0 #[.string b.kind,.string b.name,.slice a1 b.lines.length c1] rfl rfl bG (by kernel_rfl) hon ?_))
 first|rw[← bj]|(simp only[List.toList_toArray];rw[← bj])
 try simp only[Act.put]
 refine bodyPost_ret (v:=.agg #[.string b.kind,.string b.name,.slice a1 b.lines.length c1]) (by simp[results,Try.results51,asAddr,run_loadVar_mid (P:=Try.prog) _ _ _ 32 [.string b.kind,.string b.name,.slice a1 b.lines.length c1] _ dv Try.underlying32 rfl (by kernel_rfl)]) rfl ?_;have Ci:∀ b∈F,b0+2≤b:=fun b hb=>by have:=mi.out.2.2 b hb;have:=vV.out;omega
 refine⟨[.string b.kind,.string b.name,.slice a1 b.lines.length c1],F++[],rfl,bB b.kind b.name ((mi.out.1.aY Et.out fun b hb e=>by have:=Ci b hb;omega).aY iB.out fun b hb e=>by have:=Ci b hb;omega),by rw[List.append_nil];exact mi.out.2.1,fun b hb=> ?_, ?_⟩
 ·rw[List.append_nil]at hb;have:=Ci b hb;have:=cu.out;omega
 ·have h1:=ai jP.out fz.out;have h2:=Et.out.below (fun b e=>by have:=cu.out;omega) h1;exact iB.out.below (fun b e=>by have:=cu.out;omega) h2
theorem Try.bY:Try.prog.underlying 23=some (.slice 32):=by kernel_rfl
theorem Try.ff:(Try.prog.info? 32).map (fun i=>(i.zero,i.size,i.bytes))=some (some (.agg #[.string {data:=#[]},.string {data:=#[]},.slice none 0 0]),3,56):=by kernel_rfl
structure CyK (w:World) (b0:Nat) (lv uv:Value) (W:World):Prop where
 bel:Bel w W
 arg:aD W b0 [lv]
 res:aK W (b0+1) 25 [.slice none 0 0]
 out:aK W (b0+2) 25 [uv]
structure Cy (w:World) (b0:Nat) (lv uv:Value) (k:Nat) (G:List Nat) (es:List Dt) (xs:List Value) (W:World):Prop extends CyK w b0 lv uv W where
 row:Gr W (b0+3) 32 ar uv k G es xs
theorem aD.sc {W:World} {p q:Nat} {cs:List Value} (h:aD W p cs) (hn:p≠q) (j:Nat) (x:Value):aD (W.setCell ⟨q,j,none⟩ x) p cs:=
 h.mks (Marks.sc (S:=fun b=>b=q) W rfl j x) hn
theorem Gr.sc {W:World} {lo:Nat} {t:TypeId} {sh:List Sh} {v:Value} {n:Nat} {G:List Nat} {es:List Dt} {xs:List Value} (h:Gr W lo t sh v n G es xs) {q:Nat} (hq:q<lo) (j:Nat) (x:Value):Gr (W.setCell ⟨q,j,none⟩ x) lo t sh v n G es xs:=
 ⟨dH h.row (Marks.sc (S:=fun b=>b=q) W rfl j x) fun b hb e=>by omega,h.rep.aY (Marks.sc (S:=fun b=>b=q) W rfl j x) fun b hb e=>by have:=(h.fr b hb).1;omega,h.nd,h.fr⟩
theorem CyK.put {w W:World} {b0:Nat} {lv uv u:Value} {k:Nat} {G:List Nat} {es:List Dt} {xs:List Value} (h:CyK w b0 lv uv W) (hb:b0=w.heap.size) (hg:Gr W (b0+3) 32 ar u k G es xs):Cy w b0 lv u k G es xs (W.setCell ⟨b0+2,0,none⟩ u):=
 ⟨⟨h.bel.setCell (p:=⟨b0+2,0,none⟩) (by show w.heap.size≤b0+2;omega) _,h.arg.sc (by omega) _ _,h.res.other (by omega) _ _,h.out.set 0 u (by simp)⟩,hg.sc (by omega) _ _⟩
def VCy (uv lv:Value) (b0 bz p o k:Nat) (x:Pl.Bl) (ax:Option Addr) (cx:Nat) (jj:Nat) (u:Value) (W:World):Prop:=match jj with
 |0=>u=.pointer (some ⟨b0+2,0,none⟩)
 |1=>u=uv
 |2=>u=.pointer (some ⟨b0,0,none⟩)
 |3=>u=lv
 |4=>u=.int .i64 (k:Int)
 |5=>u=.pointer (some ⟨p,o+k*3,none⟩)
 |6=>u=.agg #[.string x.kind,.string x.name,.slice ax x.lines.length cx]
 |7=>∃ a c F,u=.agg #[.string x.kind,.string x.name,.slice a x.lines.length c]∧Rep W false ar F (blD x) [.string x.kind,.string x.name,.slice a x.lines.length c]∧F.Nodup∧∀ b∈F,bz≤b
 |8=>∃ q a c F,u=.slice (some ⟨q,0,none⟩) 1 1∧W.heap[q]? =some (.cells #[.string x.kind,.string x.name,.slice a x.lines.length c] 32 (0,0))∧Rep W false ar F (blD x) [.string x.kind,.string x.name,.slice a x.lines.length c]∧F.Nodup∧∀ b∈F,bz≤b
 |_=>True
theorem yN (uv lv:Value) (b0 bz p o k:Nat) (x:Pl.Bl) (ax:Option Addr) (cx:Nat):∀ j u W W',Bel W W'→VCy uv lv b0 bz p o k x ax cx j u W→VCy uv lv b0 bz p o k x ax cx j u W':=by
 intro j u W W' hb h;match j with
 |0|1|2|3|4|5=>exact h
 |6=>
  exact h
 |7=>
  obtain⟨a,c,F,e,hr,nd,lo⟩:=h;exact⟨a,c,F,e,hr.ae hb,nd,lo⟩
 |8=>
  obtain⟨q,a,c,F,e,hc,hr,nd,lo⟩:=h;exact⟨q,a,c,F,e,(hb.block q (Array.getElem?_eq_some_iff.1 hc).1).trans hc,hr.ae hb,nd,lo⟩
 |n+9=>exact trivial
theorem eH (s:List Pl.Bl) (v:Value) (w:World) (h:Raw w aV [aW s] [v]) (hl:s.length≤4194304) (iN:∀ b∈s,b.lines.length≤4194304∧∀ x∈b.lines,x.ws.length≤4194304):
  Calls Try.prog 22 #[.agg #[v]] w (Ans bX [aW s] w):=by
 obtain⟨i0,eT,ee,gi,jT⟩:=iZ Try.ff;have HL:=uh h;have jD:=uh iN;obtain⟨va,vc,ev⟩:=h.aP;subst ev;clear h iN;obtain⟨n,hn⟩:∃ n,n=s.length:=⟨_,rfl⟩
 have HN:=uh hn;have GJ:n≤4194304:=by omega
 have eD:s.length=n:=hn.symm;clear hn hl;rw[eD];clear eD;obtain⟨wa,aS⟩:∃ wa,wa=((w.alloc (.cells #[.slice va n vc] 25)).alloc (.cells #[.slice none 0 0] 25)).alloc (.cells #[.slice none 0 0] 25):=⟨_,rfl⟩
 obtain⟨b0,bD⟩:∃ b0,b0=w.heap.size:=⟨_,rfl⟩
 have iG:=uh bD;have H0:Hid (Cy w b0 (.slice va n vc) (.slice none 0 0) 0 [] [] [] wa):=by
  show Cy _ _ _ _ _ _ _ _ _;refine⟨⟨?_, ?_, ?_, ?_⟩,Gr.nil _ _ _ _⟩
  ·rw[aS];exact ah (ah (ah zR _) _) _
  ·rw[aS,bD];exact((aD.new w #[.slice va n vc] _ _ rfl).fI _).fI _
  ·rw[aS,bD];exact(aK.new (w.alloc (.cells #[.slice va n vc] 25)) [.slice none 0 0] 25 _ (by simp)).ae (ah zR _)
  ·rw[aS,bD];exact aK.new ((w.alloc (.cells #[.slice va n vc] 25)).alloc (.cells #[.slice none 0 0] 25)) [.slice none 0 0] 25 _ (by simp)
 go_enter Try.func22,Try.ntmps22
 go_upto_region 2 with fail
 rw[← aS,← bD];clear aS bD;go_wp2;go_loopw [4] (fun vi wr=>∃ (k:Nat) (uv:Value) (G:List Nat) (xs:List Value),k≤n∧vi=.int .i64 k∧Cy w b0 (.slice va n vc) uv k G ((s.take k).flatMap blD) xs wr) (fun vi _=>n - (intOf vi).toNat)
 case atStart=>exact⟨0,_,[],[],zN,rfl,H0.out⟩
 case round=>
  obtain⟨k,uv,G,xs,hk,rfl,hO⟩:=hrel;have HO:=uh hO;obtain⟨ua,uc,xK⟩:=hO.row.shape;subst xK;clear hO H0;have x0:=HO.out.arg.get 0 _ rfl;have xl:=HO.out.arg.lt;by_cases bN:k<n
  rotate_left
  ·have kg:s.take k=s:=List.take_of_length_le (by have:=HN.out;omega);rw[kg]at HO;obtain rfl:k=s.length:=by have:=HN.out;omega
   clear kg;go_upto_region 6 with fail
   clear x0 xl;have jH:=HO.out.out.at_;have lf:=HO.out.out.own.lt;have uQ:=HO.out.res.own.lt;have bG:wr.there (b0+1) 0 (#[.slice ua s.length uc]:Array Value).size:=aR HO.out.res.own _ _ (by simp);obtain⟨we,bj⟩:∃ we,we=wr.setCells (b0+1) 0 [.slice ua s.length uc]:=⟨_,rfl⟩
   have dv:we.rangeAt (b0+1) 0 [.slice ua s.length uc]:=by rw[bj];exact World.rangeAt_setCells_same _ _ _ _ bG
   have iB:Hid (Marks (fun b=>b=b0+1) wr we):=by show Marks _ _ _;rw[bj];exact aN (S:=fun b=>b=b0+1) rfl _ _ _
   go_wp2_with (first|(refine wpList_load_mid rfl 25 _ rfl (b0+2) 0 rfl [.slice ua s.length uc] _ jH Try.underlying25 rfl (by kernel_rfl) ?_)|(refine wpList_store_mid rfl 25 _ _ rfl (b0+1) 0 #[.slice ua s.length uc] rfl rfl bG (by kernel_rfl) (by simp[Value.oneCell']) ?_))
   first|rw[← bj]|(simp only[List.toList_toArray];rw[← bj])
   try simp only[Act.put]
   refine bodyPost_ret (v:=.agg #[.slice ua s.length uc]) (by simp[results,Try.results22,asAddr,run_loadVar_mid (P:=Try.prog) _ _ _ 25 [.slice ua s.length uc] _ dv Try.underlying25 rfl (by kernel_rfl)]) rfl ?_;obtain⟨F,r,nd,fr⟩:=HO.out.row.done;refine⟨[.slice ua s.length uc],F++[],rfl,ma (r.aY iB.out fun b hb e=>by have:=fr b hb;omega),by rw[List.append_nil];exact nd,fun b hb=> ?_,iB.out.below (fun b e=>by have:=iG.out;omega) HO.out.bel⟩;rw[List.append_nil]at hb;have:=fr b hb;have:=iG.out;omega
  have eP:k<s.length:=by have:=HN.out;omega
  rcases cL (HL.out.ae HO.out.bel) with⟨e0,_⟩|⟨p,o,c,hv,hp,ec,aZ⟩
  ·omega
  rw[← HN.out]at hv ec;injection hv with g1 _ g3
  subst g1;subst g3;obtain⟨ax,cx,dO,dF⟩:=aZ k eP;have qS:=uh (Pl.dM Pl.aG s k eP);have vW:(s.getD k Pl.aG).lines.length≤4194304∧∀ x∈(s.getD k Pl.aG).lines,x.ws.length≤4194304:=by
   have e:s.getD k Pl.aG=s[k]:=by simp[eP]
   rw[e];exact jD.out _ (List.getElem_mem eP)
  obtain⟨x,hx⟩:∃ x,x=s.getD k Pl.aG:=⟨_,rfl⟩
  rw[← hx]at dO dF qS vW;have HCB:=uh (fun (X:World) (hX:Bel wr X)=>xe x (.slice ax x.lines.length cx) X (dF.ae hX) vW.1 vW.2);have eB:=uh dO;have iI:=uh hp;have dd:(0:Int)≤(k:Int):=by omega
  have de:(k:Int)<(n:Int):=by omega
  clear hx dO dF vW hp aZ ec;go_upto_region 5 with fail
  clear x0 xl;refine RY.l6 wr zR (VCy (.slice ua k uc) (.slice (some ⟨p,o,none⟩) n vc) b0 wr.heap.size p o k x ax cx) (yN _ _ _ _ _ _ _ _ _ _) (fun u W'=>∃ g cap G' xs',u=.slice (some ⟨g,0,none⟩) (k+1) cap∧CyK w b0 (.slice (some ⟨p,o,none⟩) n vc) (.slice ua k uc) W'∧Gr W' (b0+3) 32 ar u (k+1) G' ((s.take (k+1)).flatMap blD) xs') (fun u W'=>∃ g cap G' xs',u=.slice (some ⟨g,0,none⟩) (k+1) cap∧Cy w b0 (.slice (some ⟨p,o,none⟩) n vc) u (k+1) G' ((s.take (k+1)).flatMap blD) xs' W') (.pointer (some ⟨b0+2,0,none⟩)) 9 12 22 23 (by kernel_rfl) (by kernel_rfl) (by kernel_rfl) (by kernel_rfl) (by kernel_rfl) rfl (by kernel_rfl) _ _ _ rfl rfl rfl rfl rfl rfl (by kernel_rfl) (by kernel_rfl) ?_ ?_ ?_ ?_ ?_
  ·intro i o' ho gN a X hX hk hd;have z2:=(HO.out.out.ae hX).get 0 _ rfl;have z0:=(HO.out.arg.ae hX).get 0 _ rfl;have zl2:=(HO.out.out.ae hX).own.lt;have zl0:=(HO.out.arg.ae hX).lt;match i,ho with
   |0,rfl=>
    exact RY.p (.pointer (some ⟨b0+2,0,none⟩)) (by simp[execOp,go_sem,RY.K hk 3 (.pointer (some ⟨b0+2,0,none⟩))])
   |1,rfl=>
    exact RY.p (.slice ua k uc) (by simp[execOp,go_sem,RY.E1 hd 0 13,z2])
   |2,rfl=>
    exact RY.p (.pointer (some ⟨b0,0,none⟩)) (by simp[execOp,go_sem,RY.K hk 1 (.pointer (some ⟨b0,0,none⟩))])
   |3,rfl=>
    exact RY.p (.slice (some ⟨p,o,none⟩) n vc) (by simp[execOp,go_sem,RY.E1 hd 2 15,z0])
   |4,rfl=>
    exact RY.p (.int .i64 (k:Int)) (by simp[execOp,go_sem,RY.K hk 4 (.int .i64 (k:Int))])
   |5,rfl=>
    exact RY.p (.pointer (some ⟨p,o+k*3,none⟩)) (by simp[execOp,go_sem,RY.E1 hd 3 16,RY.E1 hd 4 17,dd,de])
   |6,rfl=>
    have e1:=hd 5 _ 18 rfl rfl ⟨⟨5,.data⟩,by simp,rfl,rfl⟩ (by decide);exact Or.inl ⟨_,X,aq 32 _ rfl p (o+k*3) e1 [.string x.kind,.string x.name,.slice ax x.lines.length cx] _ (aA eB.out iI.out hX) Try.underlying32 rfl (by kernel_rfl),zR,rfl⟩
   |7,rfl=>
    have e19:=(RY.af a 19).trans (hd 6 _ 19 rfl rfl ⟨⟨6,.data⟩,by simp,rfl,rfl⟩ (by decide));refine Or.inr ⟨51,#[.agg #[.string x.kind,.string x.name,.slice ax x.lines.length cx]],by simp[go_sem,e19],(HCB.out X hX).mono ?_⟩;rintro e W' ⟨c,F,rfl,hr,nd,lo,hb⟩;obtain⟨v1,hc,r1⟩:=jL hr.raw;subst hc;obtain⟨a1,c1,jK⟩:=r1.aP;subst jK;exact⟨_,rfl,hb,a1,c1,F,rfl,hr,nd,fun b hb=>Nat.le_trans hX.size (lo b hb)⟩
   |8,rfl=>
    obtain⟨a1,c1,F,e1,hr,nd,lo⟩:=hd 7 _ 20 rfl rfl ⟨⟨7,.data⟩,by simp,rfl,rfl⟩ (by decide);have e20:=(RY.af a 20).trans e1;exact Or.inl ⟨.slice (some ⟨X.heap.size,0,none⟩) 1 1,X.alloc (.cells #[.string x.kind,.string x.name,.slice a1 x.lines.length c1] 32),by simp[execOp,go_sem,e20],ah zR _,X.heap.size,a1,c1,F,rfl,heap_alloc_new X _,hr.ae (ah zR _),nd,lo⟩
   |n+9,ho=>omega
  ·intro a X hX hk hd;have z2:=(HO.out.out.ae hX).get 0 _ rfl;have z0:=(HO.out.arg.ae hX).get 0 _ rfl;have zl2:=(HO.out.out.ae hX).own.lt;have zl0:=(HO.out.arg.ae hX).lt;have e0:=hd 1 _ 14 rfl rfl ⟨⟨1,.data⟩,by simp,rfl,rfl⟩ (by decide);obtain⟨q,a1,c1,FW,e1,fL,iC,nd,fr⟩:=hd 8 _ 21 rfl rfl ⟨⟨8,.data⟩,by simp,rfl,rfl⟩ (by decide);have H9:=HO.out.row.ae hX;obtain⟨g,cap,X',cg,hU,mw,Es,_⟩:=run_append_lies (P:=Try.prog) (w:=X) 23 23 (b0+3) 32 i0 _ 3 56 Try.bY eT ee gi jT rfl (by decide) (.slice ua k uc) k xs H9.row ⟨q,0,none⟩ 1 1 [.string x.kind,.string x.name,.slice a1 x.lines.length c1] rfl (fun j y hy=>by rw[Addr.add_mid,Nat.zero_add];simp only[World.cell?,fL];simpa using hy) (fun y hy=>iC.raw.one y hy) (by decide) (by unfold maxLen;omega) (by omega) (by have:=HO.out.out.own.lt;have:=hX.size;omega) X.heap.size rfl;have hn:∀ q,q<b0+3→(Value.slice ua k uc).ownBlock≠some q:=fun q hq e=>by have:=(bK H9.row e).1;omega
   refine⟨_,X',bg (.tmp 14) (.tmp 21) 23 rfl e0 e1 cg,g,cap,G++FW,xs++[.string x.kind,.string x.name,.slice a1 x.lines.length c1],rfl,⟨?_, ?_, ?_, ?_⟩, ?_⟩
   ·exact fg (ai HO.out.bel hX) mw (fun b hb=>by have:=(bK H9.row hb).1;have:=iG.out;omega)
   ·exact(HO.out.arg.ae hX).grown mw (hn _ (by omega))
   ·exact(HO.out.res.ae hX).grow mw (hn _ (by omega))
   ·exact(HO.out.out.ae hX).grow mw (hn _ (by omega))
   ·have:=HO.out.row.push (F:=FW) hX iC nd fr (by have:=HO.out.out.own.lt;omega) hU mw zE Es;rw[qS.out,List.flatMap_append,List.flatMap_singleton];exact this
  ·intro a X hk;have e3:=RY.K hk 3 (.pointer (some ⟨b0+2,0,none⟩));simp[execOp,go_sem,e3]
  ·intro a X hK hp;obtain⟨g,cap,G',xs',e1,hK,hg⟩:=hK;have t22:=(RY.af a 22).trans e1;have t23:=(RY.af a 23).trans hp;have z2:=hK.out.get 0 _ rfl;have zf:=hK.out.own.frozen 0;refine⟨X.setCell ⟨b0+2,0,none⟩ (.slice (some ⟨g,0,none⟩) (k+1) cap),by simp[execOp,go_sem,t22,t23,z2,zf],g,cap,G',xs',e1, ?_⟩;rw[e1]at hg ⊢;exact hK.put iG.out hg
  ·rintro vals X hK e2;simp only[RY.aE,Act.put,List.setIfInBounds_toArray,List.set_cons_zero,List.set_cons_succ];rw[e2];generalize vals 13=s13;generalize vals 14=s14;generalize vals 15=s15;generalize vals 16=s16;generalize vals 17=s17;generalize vals 18=s18;generalize vals 19=s19;generalize vals 20=s20;generalize vals 21=s21;obtain⟨g,cap,G',xs',e1,hO⟩:=hK;rw[e1]at hO ⊢;have HN:=uh hO;clear hO e1 e2 HO;go_wp2;go_roundw
   case rel=>exact⟨k+1,_,G',xs',by omega,by go_num,HN.out⟩
   case measure=>simp[intOf];omega
end Go.Proofs.Ytmgibmmpopoboaa
