import Derived.Test.YtmgibmmpopoboaaETp
namespace Go.Proofs.Ytmgibmmpopoboaa
open Go.RowKit Go.Deep
set_option maxHeartbeats 40000000
set_option maxRecDepth 8000
structure Xw (w:World) (b0 px p o n c lo:Nat) (sv:Value) (cur:List Pl.Bl) (W:World):Prop where
 bel:Bel w W
 arg:aD W b0 [sv]
 res:aK W (b0+1) 25 [.slice none 0 0]
 x:aD W px [.slice (some ⟨p,o,none⟩) n c]
 row:cv W p o lo cur
theorem Xw.ae {w W W':World} {b0 px p o n c lo:Nat} {sv:Value} {cur:List Pl.Bl} (h:Xw w b0 px p o n c lo sv cur W) (hb:Bel W W'):Xw w b0 px p o n c lo sv cur W':=⟨ai h.bel hb,h.arg.ae hb,h.res.ae hb,h.x.ae hb,h.row.ae hb⟩
theorem Xw.put {w W:World} {b0 px p o n c lo N:Nat} {sv lv:Value} {cur:List Pl.Bl} (h:Xw w b0 px p o n c lo sv cur W) (hb:b0=w.heap.size) (hl:b0+2≤lo) (qF:px≠p) {k:Nat} (hk:k<cur.length) (y:Pl.Bl) (hD:Dat (fun b=>lo≤b∧b≠p) N N W aJ [aU y.lines] [lv]) (hN:p<N):Xw w b0 px p o n c lo sv (cur.set k y) (W.setCells p (o+k*3) [.string y.kind,.string y.name,lv]):=by
 have hm:Marks (fun b=>b=p) W (W.setCells p (o+k*3) [.string y.kind,.string y.name,lv]):=aN (S:=fun b=>b=p) rfl _ _ _;have hp:=h.row.lo;exact⟨hm.below (fun b e=>by omega) h.bel,h.arg.mks hm (by omega),h.res.mks hm (by omega),h.x.mks hm qF,h.row.put hk y hD hN⟩
def VFa (rp:Nat) (ro:Nat) (nr:Nat) (rc:Nat) (k:Nat):Nat→Value→World→Prop
 |0,vv,_=>vv=.slice (some ⟨rp,ro,none⟩) nr rc
 |1,vv,_=>vv=.int .i64 (k:Int)
 |2,vv,_=>vv=.pointer (some ⟨rp,ro+k*4,none⟩)
 |3,vv,_=>vv=.pointer (some ⟨rp,ro+k*4+2,none⟩)
 |4,vv,_=>vv=.bool true
 |5,vv,_|6,vv,_|20,vv,_=>vv=.bool false
 |7,vv,_|8,vv,_|9,vv,_|10,vv,_|11,vv,_|12,vv,_|13,vv,_|14,vv,_|15,vv,_|16,vv,_|17,vv,_|18,vv,_|19,vv,_=>vv=undef
 |_,_,_=>True
theorem zZ (rp:Nat) (ro:Nat) (nr:Nat) (rc:Nat) (k:Nat):∀ jj vv W W',Bel W W'→VFa rp ro nr rc k jj vv W→VFa rp ro nr rc k jj vv W':=by
 intro jj vv W W' hb h;match jj with
 |0|1|2|3|4|5|6|7|8|9|10|11|12|13|14|15|16|17|18|19|20=>exact h
 |n+21=>exact trivial
def VFb (px:Nat) (p:Nat) (o:Nat) (n:Nat) (c:Nat) (i:Nat) (rp:Nat) (ro:Nat) (nr:Nat) (rc:Nat) (k:Nat) (y:Pl.Bl) (acc:List Pl.Ln) (r:Pl.Ru) (la:Option Addr) (lc:Nat):Nat→Value→World→Prop
 |0,vv,_|12,vv,_=>vv=.slice (some ⟨rp,ro,none⟩) nr rc
 |1,vv,_|13,vv,_=>vv=.int .i64 (k:Int)
 |2,vv,_|14,vv,_|15,vv,_=>vv=.pointer (some ⟨rp,ro+k*4,none⟩)
 |3,vv,_=>vv=.pointer (some ⟨rp,ro+k*4+2,none⟩)
 |4,vv,_=>vv=.bool false
 |5,vv,_|6,vv,_=>vv=.bool true
 |7,vv,_=>vv=.pointer (some ⟨px,0,none⟩)
 |8,vv,_=>vv=.slice (some ⟨p,o,none⟩) n c
 |9,vv,_=>vv=.int .i64 (i:Int)
 |10,vv,_=>vv=.pointer (some ⟨p,o+i*3,none⟩)
 |11,vv,_=>vv=.agg #[.string y.kind,.string y.name,.slice la acc.length lc]
 |16,vv,_=>vv=.string r.key
 |17,vv,_=>∃ a m,vv=.slice a (Pl.aI acc r.key).length m
 |18,vv,_=>vv=.int .i64 ((Pl.aI acc r.key).length:Int)
 |19,vv,_|20,vv,_=>vv=.bool (decide ((Pl.aI acc r.key).length=0))
 |_,_,_=>True
theorem Aj (px:Nat) (p:Nat) (o:Nat) (n:Nat) (c:Nat) (i:Nat) (rp:Nat) (ro:Nat) (nr:Nat) (rc:Nat) (k:Nat) (y:Pl.Bl) (acc:List Pl.Ln) (r:Pl.Ru) (la:Option Addr) (lc:Nat):∀ jj vv W W',Bel W W'→VFb px p o n c i rp ro nr rc k y acc r la lc jj vv W→VFb px p o n c i rp ro nr rc k y acc r la lc jj vv W':=by
 intro jj vv W W' hb h;match jj with
 |0|1|2|3|4|5|6|7|8|9|10|11|12|13|14|15|16|18|19|20=>exact h
 |17=>
  exact h
 |n+21=>exact trivial
def VFc (lo:Nat) (N:Nat) (px:Nat) (p:Nat) (o:Nat) (n:Nat) (c:Nat) (i:Nat) (rp:Nat) (ro:Nat) (nr:Nat) (rc:Nat) (k:Nat) (y:Pl.Bl) (acc:List Pl.Ln) (r:Pl.Ru) (la:Option Addr) (a3:Option Addr) (lc:Nat) (c3:Nat):Nat→Value→World→Prop
 |0,vv,_|3,vv,_=>vv=.pointer (some ⟨px,0,none⟩)
 |1,vv,_|4,vv,_=>vv=.slice (some ⟨p,o,none⟩) n c
 |2,vv,_|5,vv,_=>vv=.int .i64 (i:Int)
 |6,vv,_|20,vv,_=>vv=.pointer (some ⟨p,o+i*3,none⟩)
 |7,vv,_=>vv=.agg #[.string y.kind,.string y.name,.slice la acc.length lc]
 |8,vv,_|13,vv,_=>vv=.slice (some ⟨rp,ro,none⟩) nr rc
 |9,vv,_|14,vv,_=>vv=.int .i64 (k:Int)
 |10,vv,_|11,vv,_|15,vv,_=>vv=.pointer (some ⟨rp,ro+k*4,none⟩)
 |12,vv,_=>vv=.string r.key
 |16,vv,_=>vv=.pointer (some ⟨rp,ro+k*4+3,none⟩)
 |17,vv,_=>vv=.slice a3 r.dflt.length c3
 |18,vv,_=>vv=.agg #[.string r.key,.slice a3 r.dflt.length c3]
 |19,vv,W=>∃ cc,vv=.agg cc.toArray∧Dat (fun b=>lo≤b∧b≠p) N N W ar (blD ⟨y.kind,y.name,Pl.dD y.kind acc ⟨r.key,r.dflt⟩⟩) cc
 |_,_,_=>True
theorem Aa (lo:Nat) (N:Nat) (px:Nat) (p:Nat) (o:Nat) (n:Nat) (c:Nat) (i:Nat) (rp:Nat) (ro:Nat) (nr:Nat) (rc:Nat) (k:Nat) (y:Pl.Bl) (acc:List Pl.Ln) (r:Pl.Ru) (la:Option Addr) (a3:Option Addr) (lc:Nat) (c3:Nat):∀ jj vv W W',Bel W W'→VFc lo N px p o n c i rp ro nr rc k y acc r la a3 lc c3 jj vv W→VFc lo N px p o n c i rp ro nr rc k y acc r la a3 lc c3 jj vv W':=by
 intro jj vv W W' hb h;match jj with
 |0|1|2|3|4|5|6|7|8|9|10|11|12|13|14|15|16|17|18|20=>exact h
 |19=>
  obtain⟨cc,h1,h2⟩:=h;exact⟨cc,h1,h2.ae hb⟩
 |n+21=>exact trivial
theorem tY (s:List Pl.Bl) (v:Value) (w:World) (h:Raw w aV [aW s] [v]) (hs:∀ b∈s,Sm 1048576 b):
  Calls Try.prog 8 #[.agg #[v]] w (Ans bX [aW (Pl.bH s)] w):=by
 have HL:=uh h;have BF:=uh hs;obtain⟨va,vc,ev⟩:=h.aP;subst ev;clear h hs;obtain⟨wa,aS⟩:∃ wa,wa=(w.alloc (.cells #[.slice va s.length vc] 25)).alloc (.cells #[.slice none 0 0] 25):=⟨_,rfl⟩
 obtain⟨b0,bD⟩:∃ b0,b0=w.heap.size:=⟨_,rfl⟩
 have iG:=uh bD;have HB:Hid (Bel w wa):=by show Below _ _ _;rw[aS];exact ah (ah zR _) _
 have iL:Hid (aD wa b0 [.slice va s.length vc]):=by show aD _ _ _;rw[aS,bD];exact(aD.new w #[.slice va s.length vc] _ _ rfl).fI _
 have jf:Hid (aK wa (b0+1) 25 [.slice none 0 0]):=by show aK _ _ _ _;rw[aS,bD];exact aK.new (w.alloc (.cells #[.slice va s.length vc] 25)) [.slice none 0 0] 25 _ (by simp)
 go_enter Try.func8,Try.ntmps8
 go_upto_region 1 with fail
 rw[← aS,← bD];clear aS bD;have oT:=uh (fun (X:World) (hX:Bel w X)=>gx s (.slice va s.length vc) X (HL.out.ae hX) (El BF.out));have xz:=iL.out.lt;have xa:=iL.out.at_;go_wp2_with (refine wpList_load_mid rfl 25 _ rfl b0 0 rfl [.slice va s.length vc] _ xa Try.underlying25 rfl (by kernel_rfl) ?_)
 refine(oT.out wa HB.out).mono ?_;rintro e w1 ⟨rfl,hb⟩;replace HB:=uh (ai HB.out hb)
 replace iL:=uh (iL.out.ae hb)
 replace jf:=uh (jf.out.ae hb)
 clear hb xz xa oT;cases bd:Pl.aM s
 ·have HE:Hid (Pl.bH s=[]):=by show _=_;unfold Pl.bH;rw[bd];rfl
  have cC:=jf;have qR:=HB;have bG:w1.there (b0+1) 0 (#[.slice none 0 0]:Array Value).size:=aR cC.out.own _ _ (by simp);obtain⟨we,bj⟩:∃ we,we=w1.setCells (b0+1) 0 [.slice none 0 0]:=⟨_,rfl⟩
  have dv:we.rangeAt (b0+1) 0 [.slice none 0 0]:=by rw[bj];exact World.rangeAt_setCells_same _ _ _ _ bG
  have iB:Hid (Marks (fun b=>b=b0+1) w1 we):=by show Marks _ _ _;rw[bj];exact aN (S:=fun b=>b=b0+1) rfl _ _ _
  go_wp2_with (refine wpList_store_mid rfl 25 _ _ rfl (b0+1) 0 #[.slice none 0 0] rfl rfl bG (by kernel_rfl) (by simp[Value.oneCell']) ?_)
  first|rw[← bj]|(simp only[List.toList_toArray];rw[← bj])
  try simp only[Act.put]
  refine bodyPost_ret (v:=.agg #[.slice none 0 0]) (by simp[results,Try.results8,asAddr,run_loadVar_mid (P:=Try.prog) _ _ _ 25 [.slice none 0 0] _ dv Try.underlying25 rfl (by kernel_rfl)]) rfl ?_;have hz:=iG.out;rw[HE.out];exact⟨[.slice none 0 0],[],rfl,.emp _ _ _ rfl .nil,List.nodup_nil,by simp,iB.out.below (fun b e=>by omega) qR.out⟩
 have Jr:Hid (Pl.bH s=s.map Pl.dN):=by show _=_;unfold Pl.bH;rw[bd];rfl
 have gj:=Pl.pj bd;clear bd;have xz:=iL.out.lt;have xa:=iL.out.at_;have oT:=uh (eH s (.slice va s.length vc) w1 (HL.out.ae HB.out) (by omega) (fun b hb=>⟨Nat.le_trans (BF.out b hb).ln (by omega),fun x hx=>((BF.out b hb).ws x hx).1⟩));go_wp2_with (refine wpList_load_mid rfl 25 _ rfl b0 0 rfl [.slice va s.length vc] _ xa Try.underlying25 rfl (by kernel_rfl) ?_)
 refine oT.out.mono ?_;rintro e w2 ⟨cc,FF,rfl,rep,nd,fr,hb⟩;obtain⟨F2,v2,mD,AY,r2⟩:=du rep;subst AY;obtain⟨a2,m2,fK⟩:=r2.raw.aP;subst fK;rw[mD,List.append_nil]at nd fr;have oI:Hid (b0+2≤w1.heap.size):=jf.out.own.lt;have G5:Hid (∀ b∈F2,b<w2.heap.size):=r2.lt;replace HB:=uh (ai HB.out hb)
 replace iL:=uh (iL.out.ae hb)
 replace jf:=uh (jf.out.ae hb)
 have mi:=uh (And.intro r2 (And.intro nd fr));clear rep nd fr r2 hb xz xa oT mD;obtain⟨lo,eN⟩:∃ lo,lo=w1.heap.size:=⟨_,rfl⟩
 rw[← eN]at oI mi;clear eN;obtain⟨px,qF⟩:∃ px,px=w2.heap.size:=⟨_,rfl⟩
 obtain⟨wx,uK⟩:∃ wx,wx=w2.alloc (.cells #[.slice a2 s.length m2] 25):=⟨_,rfl⟩
 have xW:Bel w2 wx:=by rw[uK];exact ah zR _
 have mQ:Hid (aD wx px [.slice a2 s.length m2]):=by show aD _ _ _;rw[uK,qF];exact aD.new w2 #[.slice a2 s.length m2] _ _ rfl
 replace HB:=uh (ai HB.out xW)
 replace iL:=uh (iL.out.ae xW)
 replace jf:=uh (jf.out.ae xW)
 replace mi:=uh (And.intro (mi.out.1.ae xW) mi.out.2)
 rw[← qF]at G5;clear xW;go_upto_region 4 with fail
 rw[← uK,← qF];clear uK qF;by_cases hz:s.length=0
 ·have Ds:s=[]:=List.eq_nil_of_length_eq_zero hz;subst Ds;have HE:Hid (Pl.bH []=[]):=by show _=_;rw[Jr.out];rfl
  have x0:=mQ.out.get 0 _ rfl;have xl:=mQ.out.lt;have xa:=mQ.out.at_;have j9:=uh (eH [] (.slice a2 0 m2) wx (mi.out.1.raw) (by simp) (by simp));have Lo:¬ ((0:Int)<0):=by omega
  go_wp2;refine wp_loop_rounds 1 ?_;rw[rounds_succ];go_wp2_with (refine wpList_load_mid rfl 25 _ rfl px 0 rfl [.slice a2 0 m2] _ xa Try.underlying25 rfl (by kernel_rfl) ?_)
  refine j9.out.mono ?_;rintro e w3 ⟨cc,FF,rfl,rep,nd,fr,hb⟩;obtain⟨F3,v3,mD,AY,r3⟩:=du rep;subst AY;obtain⟨a3,m3,oh⟩:=r3.raw.aP;subst oh;have cC:=uh (jf.out.ae hb);have qR:=uh (ai HB.out hb);have iE:=uh (And.intro rep (And.intro nd fr));have BL:Hid (b0+1<wx.heap.size):=jf.out.own.lt;clear rep nd fr r3 hb mD xl x0 xa j9;have bG:w3.there (b0+1) 0 (#[.slice a3 0 m3]:Array Value).size:=aR cC.out.own _ _ (by simp);obtain⟨we,bj⟩:∃ we,we=w3.setCells (b0+1) 0 [.slice a3 0 m3]:=⟨_,rfl⟩
  have dv:we.rangeAt (b0+1) 0 [.slice a3 0 m3]:=by rw[bj];exact World.rangeAt_setCells_same _ _ _ _ bG
  have iB:Hid (Marks (fun b=>b=b0+1) w3 we):=by show Marks _ _ _;rw[bj];exact aN (S:=fun b=>b=b0+1) rfl _ _ _
  go_wp2_with (refine wpList_store_mid rfl 25 _ _ rfl (b0+1) 0 #[.slice a3 0 m3] rfl rfl bG (by kernel_rfl) (by simp[Value.oneCell']) ?_)
  first|rw[← bj]|(simp only[List.toList_toArray];rw[← bj])
  try simp only[Act.put]
  refine bodyPost_ret (v:=.agg #[.slice a3 0 m3]) (by simp[results,Try.results8,asAddr,run_loadVar_mid (P:=Try.prog) _ _ _ 25 [.slice a3 0 m3] _ dv Try.underlying25 rfl (by kernel_rfl)]) rfl ?_;have hz:=iG.out;rw[HE.out];exact⟨_,FF,rfl,iE.out.1.aY iB.out (fun b hb e=>by have:=iE.out.2.2 b hb;have:=BL.out;omega),iE.out.2.1,fun b hb=>by have:=iE.out.2.2 b hb;have:=BL.out;omega,iB.out.below (fun b e=>by omega) qR.out⟩
 obtain⟨p,o,c,hv,Cb,dw⟩:=kI mi.out.1 mi.out.2.1 mi.out.2.2 (by omega);injection hv with g1 g2 g3
 subst g1;subst g3;obtain⟨n,hn⟩:∃ n,n=s.length:=⟨_,rfl⟩
 have HN:=uh hn;have BT:Hid (px≠p):=by
  intro e;rcases mi.out.1.slice with⟨_,h0,_⟩|⟨p',o',c',u',m',G',yd,x7,_⟩
  ·omega
  ·injection yd with q1
   injection q1 with q1
   injection q1 with q1
   have:=G5.out p' (by rw[x7];simp);omega
 have H0:Hid (Xw w b0 px p o n m2 lo (.slice va s.length vc) s wx):=⟨HB.out,iL.out,jf.out,by rw[hn];exact mQ.out,dw⟩
 have BR:n≤60:=by omega
 have Dy:Hid (n≤m2):=by show _≤_;rw[hn];exact Cb
 clear HB iL jf mQ mi G5 dw Cb hz gj;rw[← hn];rw[← hn]at H0;clear hn;go_wp2;go_loopw [4] (fun vi wr=>∃ (i:Nat),i≤n∧vi=.int .i64 i∧Xw w b0 px p o n m2 lo (.slice va n vc) (Pl.fp Pl.dN s i) wr) (fun vi _=>n - (intOf vi).toNat)
 case atStart=>exact⟨0,zN,rfl,by rw[Pl.pK];exact H0.out⟩
 case round=>
  obtain⟨i,hi,rfl,hO⟩:=hrel;have HO:=uh hO;clear hO H0;have x0:=HO.out.x.get 0 _ rfl;have xl:=HO.out.x.lt;by_cases bN:i<n
  rotate_left
  ·obtain rfl:i=n:=by omega
   have qE:¬ ((i:Int)<(i:Int)):=by omega
   have MM:Hid (Pl.fp Pl.dN s i=s.map Pl.dN):=by show _=_;rw[HN.out,Pl.sM]
   rw[MM.out]at HO;have tk:Hid ((s.map Pl.dN).length=i):=by show _=_;rw[List.length_map];exact HN.out.symm
   have HE:Hid (Pl.bH s=s.map Pl.dN):=Jr;have Ca:Hid (∀ b∈s.map Pl.dN,b.lines.length≤4194304∧∀ x∈b.lines,x.ws.length≤4194304):=fun b hb=>by
    obtain⟨y,hy,rfl⟩:=List.mem_map.1 hb;have h1:=vB (BF.out y hy) (Pl.aj y.kind).length;rw[List.take_length]at h1;exact⟨Nat.le_trans h1.1 (by omega),h1.2⟩
   obtain⟨z,hz⟩:∃ z,z=s.map Pl.dN:=⟨_,rfl⟩
   rw[← hz]at HO tk HE Ca;clear hz;go_upto_region 13 with fail
   clear x0 xl qE;have xa:=HO.out.x.at_;have xl:=HO.out.x.lt;have j9:=uh (eH z (.slice (some ⟨p,o,none⟩) z.length m2) wr (HO.out.row.raw ⟨by rw[tk.out];unfold maxLen;omega,by rw[tk.out];exact Dy.out⟩) (by rw[tk.out];omega) Ca.out);rw[tk.out]at j9;go_wp2_with (refine wpList_load_mid rfl 25 _ rfl px 0 rfl [.slice (some ⟨p,o,none⟩) i m2] _ xa Try.underlying25 rfl (by kernel_rfl) ?_)
   refine j9.out.mono ?_;rintro e w3 ⟨cc,FF,rfl,rep,nd,fr,hb⟩;obtain⟨F3,v3,mD,AY,r3⟩:=du rep;subst AY;obtain⟨a3,m3,oh⟩:=r3.raw.aP;subst oh;have cC:=uh (HO.out.res.ae hb);have qR:=uh (ai HO.out.bel hb);have iE:=uh (And.intro rep (And.intro nd fr));have BL:Hid (b0+1<wr.heap.size):=HO.out.res.own.lt;clear rep nd fr r3 hb mD xl xa j9;have bG:w3.there (b0+1) 0 (#[.slice a3 z.length m3]:Array Value).size:=aR cC.out.own _ _ (by simp);obtain⟨we,bj⟩:∃ we,we=w3.setCells (b0+1) 0 [.slice a3 z.length m3]:=⟨_,rfl⟩
   have dv:we.rangeAt (b0+1) 0 [.slice a3 z.length m3]:=by rw[bj];exact World.rangeAt_setCells_same _ _ _ _ bG
   have iB:Hid (Marks (fun b=>b=b0+1) w3 we):=by show Marks _ _ _;rw[bj];exact aN (S:=fun b=>b=b0+1) rfl _ _ _
   go_wp2_with (refine wpList_store_mid rfl 25 _ _ rfl (b0+1) 0 #[.slice a3 z.length m3] rfl rfl bG (by kernel_rfl) (by simp[Value.oneCell']) ?_)
   first|rw[← bj]|(simp only[List.toList_toArray];rw[← bj])
   try simp only[Act.put]
   refine bodyPost_ret (v:=.agg #[.slice a3 z.length m3]) (by simp[results,Try.results8,asAddr,run_loadVar_mid (P:=Try.prog) _ _ _ 25 [.slice a3 z.length m3] _ dv Try.underlying25 rfl (by kernel_rfl)]) rfl ?_;have hz:=iG.out;rw[HE.out];exact⟨_,FF,rfl,iE.out.1.aY iB.out (fun b hb e=>by have:=iE.out.2.2 b hb;have:=BL.out;omega),iE.out.2.1,fun b hb=>by have:=iE.out.2.2 b hb;have:=BL.out;omega,iB.out.below (fun b e=>by omega) qR.out⟩
  have D6:i<s.length:=by have:=HN.out;omega
  have lU:Hid ((Pl.fp Pl.dN s i).length=n):=by show _=_;rw[HN.out];exact Pl.rU Pl.dN s i (by omega)
  obtain⟨y,hy⟩:∃ y,y=s.getD i Pl.aG:=⟨_,rfl⟩
  have Kk:Hid (Sm 1048576 y):=by show Sm _ _;rw[hy];exact sm_at BF.out D6
  have Dn:=uh (Pl.pz Pl.dN s i D6);have Iy:=uh (Pl.wM Pl.dN s i D6);rw[← hy]at Dn Iy;obtain⟨ga,gm,dO,_⟩:=HO.out.row.at_ (k:=i) (by rw[lU.out];exact bN) zE;rw[Pl.rN Pl.dN s i D6,← hy]at dO;have hgk:=dO 0 _ rfl;rw[Nat.add_zero]at hgk;have dc:=HO.out.row.lt;obtain⟨cur,lV⟩:∃ cur,cur=Pl.fp Pl.dN s i:=⟨_,rfl⟩
  rw[← lV]at HO lU Dn Iy;clear lV hy dO;have eT:(0:Int)≤(i:Int):=by omega
  have gN:(i:Int)<(n:Int):=by omega
  have oC:=uh (cB y.kind wr);go_wp2_with fail
  refine oC.out.mono ?_;rintro e w4 ⟨rv,RF,rfl,rep,nd,fr,hb⟩;obtain⟨ra,rc,Jl⟩:=rep.raw.aP;subst Jl;have KZ:Hid (mz lo p w4 [.row 40 aC] [bQ (Pl.aj y.kind)] [.slice ra (Pl.aj y.kind).length rc]):=⟨RF,rep,fun b hb=>⟨by have:=fr b hb;have:=HO.out.row.lo;have:=HO.out.row.lt;omega,by have:=fr b hb;have:=HO.out.row.lt;omega⟩⟩
  replace HO:=uh (HO.out.ae hb)
  clear rep nd fr hb hgk dc x0 xl oC;obtain⟨rs,AX⟩:∃ rs,rs=Pl.aj y.kind:=⟨_,rfl⟩
  have jf:=uh AX;rw[← AX]at KZ ⊢;obtain⟨nr,La⟩:∃ nr,nr=rs.length:=⟨_,rfl⟩
  have Ll:=uh La;have hnr12:nr≤12:=by rw[La,AX];exact cP _
  rw[← La]at KZ ⊢;clear AX La;have tf:Hid (mz lo p w4 [.row 40 aC] [bQ rs] [.slice ra nr rc]):=KZ.out;clear KZ;go_wp2;go_loopw [6] (fun vi wr=>∃ (k:Nat),k≤nr∧vi=.int .i64 k∧mz lo p wr [.row 40 aC] [bQ rs] [.slice ra nr rc]∧Xw w b0 px p o n m2 lo (.slice va n vc) (cur.set i ⟨y.kind,y.name,Pl.cp y.kind y.lines (rs.take k)⟩) wr) (fun vi _=>nr - (intOf vi).toNat)
  case atStart=>exact⟨0,zN,rfl,tf.out,by show Xw _ _ _ _ _ _ _ _ _ (cur.set i ⟨y.kind,y.name,y.lines⟩) _;rw[Iy.out];exact HO.out⟩
  case round=>
   clear HO tf;obtain⟨k,hk,rfl,hR,hO⟩:=hrel;have HO:=uh hO;have tf:=uh hR;clear hO hR;by_cases Bq:k<nr
   rotate_left
   ·obtain rfl:k=nr:=by omega
    have qE:¬ ((k:Int)<(k:Int)):=by omega
    have JR:Hid (cur.set i ⟨y.kind,y.name,Pl.cp y.kind y.lines (rs.take k)⟩=Pl.fp Pl.dN s (i+1)):=by
     show _=_;rw[← Dn.out,Ll.out,List.take_length,jf.out];rfl
    rw[JR.out]at HO;go_wp2;go_roundw
    case rel=>exact⟨i+1,by omega,by go_num,HO.out⟩
    case measure=>simp[intOf];omega
   have JL:k<rs.length:=by have:=Ll.out;omega
   obtain⟨acc,Dk⟩:∃ acc,acc=Pl.cp y.kind y.lines (rs.take k):=⟨_,rfl⟩
   obtain⟨r,hr⟩:∃ r,r=rs.getD k Pl.aO:=⟨_,rfl⟩
   have jJ:Hid (Pl.cp y.kind y.lines (rs.take (k+1))=Pl.cj y.kind acc r):=by show _=_;rw[Pl.rQ _ _ _ _ JL,Dk,hr]
   have BW:Hid (acc.length≤1048588∧∀ x∈acc,x.ws.length≤4194304):=by
    show _∧_;rw[Dk,jf.out];exact vB Kk.out k
   rw[← Dk]at HO;obtain⟨N,hN⟩:∃ N,N=wr.heap.size:=⟨_,rfl⟩
   obtain⟨la,lc,dO,JT⟩:=HO.out.row.at_ (k:=i) (by rw[List.length_set,lU.out];exact bN) (N:=N) (by omega);rw[Pl.CP _ _ _ _ (by rw[lU.out];exact bN)]at dO JT;obtain⟨rp,ro,c',a1,c1,a3,c3,hv,JW,cN,Ix⟩:=rC (tf.out.dat (N:=N) (by omega)) JL;rw[← Ll.out]at hv;injection hv with g1 g2 g3
   subst g1;subst g3;rw[← hr]at cN Ix;have eB:=uh dO;have JD:=uh JT;have lk:=uh cN;have DF:=uh Ix;have iI:Hid (p<wr.heap.size):=HO.out.row.lt;have ic:=uh JW;have Iq:Hid (p<N∧N≤wr.heap.size):=by rw[hN];exact⟨HO.out.row.lt,zE⟩
   clear Dk hr hN dO JT cN Ix JW;have dd:(0:Int)≤(k:Int):=by omega
   have de:(k:Int)<(nr:Int):=by omega
   cases ld:r.many
   rotate_left
   ·have IW:Hid (Pl.cp y.kind y.lines (rs.take (k+1))=acc):=by show _=_;rw[jJ.out];unfold Pl.cj;rw[ld];rfl
    rw[ld]at lk;go_upto_region 11 with fail
    refine RY.aH wr zR (VFa rp ro nr rc k) (zZ _ _ _ _ _) (by kernel_rfl) (by kernel_rfl) (by kernel_rfl) (by kernel_rfl) ?_ ?_
    ·intro ii o' ho a X hX hk hd;have zpx:=HO.out.x.ae hX;have zpxl:=zpx.lt;match ii,ho with
     |0,rfl=>
      exact RY.n (RY.p (.slice (some ⟨rp,ro,none⟩) nr rc) (by simp[execOp,go_sem,RY.K hk 5 (.slice (some ⟨rp,ro,none⟩) nr rc)]))
     |1,rfl=>
      exact RY.n (RY.p (.int .i64 (k:Int)) (by simp[execOp,go_sem,RY.K hk 6 (.int .i64 (k:Int))]))
     |2,rfl=>
      exact RY.n (RY.p (.pointer (some ⟨rp,ro+k*4,none⟩)) (by simp[execOp,go_sem,RY.E hd 0 33,RY.E hd 1 34,dd,de]))
     |3,rfl=>
      exact RY.n (RY.p (.pointer (some ⟨rp,ro+k*4+2,none⟩)) (by simp[execOp,go_sem,RY.E hd 2 35]))
     |4,rfl=>
      have e36:=RY.E hd 3 36;have yp:=zL ic.out hX.size;have yc:X.cell? ⟨rp,ro+k*4+2,none⟩=some (.bool true):=by have q:=aF (aA lk.out ic.out hX) 2 _ rfl;simpa using q
      exact RY.n (RY.p (.bool true) (by simp[execOp,go_sem,e36,yc]))
     |5,rfl=>
      exact RY.n (RY.p (.bool false) (by simp[execOp,go_sem,RY.E hd 4 37]))
     |6,rfl=>
      exact RY.n (RY.p (.bool false) (by simp[execOp,go_sem,RY.E hd 5 38]))
     |7,rfl|8,rfl|9,rfl|10,rfl|11,rfl|12,rfl|13,rfl|14,rfl|15,rfl|16,rfl|17,rfl|18,rfl|19,rfl=>
      exact RY.off hd 6 39
     |20,rfl=>
      exact RY.n (RY.p (.bool false) (by simp[execOp,go_sem,RY.E hd 6 39,RY.E hd 19 52]))
     |n+21,ho=>simp at ho
    intro X vs hX bd;have q53:vs 53=_:=bd 20 _ 53 rfl rfl;simp only[RY.aE,Act.put,List.setIfInBounds_toArray,List.set_cons_zero,List.set_cons_succ];rw[q53];generalize vs 33=og,vs 34=oz,vs 35=k6,vs 36=k9,vs 37=lj,vs 38=lY,vs 39=mu,vs 40=s40,vs 41=s41,vs 42=s42,vs 43=s43,vs 44=s44,vs 45=s45,vs 46=s46,vs 47=s47,vs 48=s48,vs 49=s49,vs 50=qG,vs 51=s51,vs 52=s52;clear bd q53;replace HO:=uh (HO.out.ae hX)
    replace tf:=uh (tf.out.ae hX)
    clear hX;rw[← IW.out]at HO;go_wp2;go_roundw
    case rel=>exact⟨k+1,by omega,by go_num,tf.out,HO.out⟩
    case measure=>simp[intOf];omega
   rw[ld]at lk;have hfe:((((Pl.aI acc r.key).length:Nat):Int)==0)=decide ((Pl.aI acc r.key).length=0):=by rw[Bool.eq_iff_iff];simp
   have HCO:=uh (fun (X:World) (hX:Bel wr X)=>AL ⟨y.kind,y.name,acc⟩ (.slice la acc.length lc) r.key X (JD.out.raw.ae hX) (by have:=BW.out.1;show acc.length≤_;omega) BW.out.2);go_upto_region 11 with fail
   refine RY.aH wr zR (VFb px p o n m2 i rp ro nr rc k y acc r la lc) (Aj _ _ _ _ _ _ _ _ _ _ _ _ _ _ _ _) (by kernel_rfl) (by kernel_rfl) (by kernel_rfl) (by kernel_rfl) ?_ ?_
   ·intro ii o' ho a X hX hk hd;have zpx:=HO.out.x.ae hX;have zpxl:=zpx.lt;match ii,ho with
    |0,rfl=>
     exact RY.n (RY.p (.slice (some ⟨rp,ro,none⟩) nr rc) (by simp[execOp,go_sem,RY.K hk 5 (.slice (some ⟨rp,ro,none⟩) nr rc)]))
    |1,rfl=>
     exact RY.n (RY.p (.int .i64 (k:Int)) (by simp[execOp,go_sem,RY.K hk 6 (.int .i64 (k:Int))]))
    |2,rfl=>
     exact RY.n (RY.p (.pointer (some ⟨rp,ro+k*4,none⟩)) (by simp[execOp,go_sem,RY.E hd 0 33,RY.E hd 1 34,dd,de]))
    |3,rfl=>
     exact RY.n (RY.p (.pointer (some ⟨rp,ro+k*4+2,none⟩)) (by simp[execOp,go_sem,RY.E hd 2 35]))
    |4,rfl=>
     have e36:=RY.E hd 3 36;have yp:=zL ic.out hX.size;have yc:X.cell? ⟨rp,ro+k*4+2,none⟩=some (.bool false):=by have q:=aF (aA lk.out ic.out hX) 2 _ rfl;simpa using q
     exact RY.n (RY.p (.bool false) (by simp[execOp,go_sem,e36,yc]))
    |5,rfl=>
     exact RY.n (RY.p (.bool true) (by simp[execOp,go_sem,RY.E hd 4 37]))
    |6,rfl=>
     exact RY.n (RY.p (.bool true) (by simp[execOp,go_sem,RY.E hd 5 38]))
    |7,rfl=>
     exact RY.on hd 6 39 (RY.p (.pointer (some ⟨px,0,none⟩)) (by simp[execOp,go_sem,RY.K hk 3 (.pointer (some ⟨px,0,none⟩))]))
    |8,rfl=>
     have e40:=RY.E hd 7 40;have yc:=zpx.get 0 _ rfl;exact RY.on hd 6 39 (RY.p (.slice (some ⟨p,o,none⟩) n m2) (by simp[execOp,go_sem,e40,yc]))
    |9,rfl=>
     exact RY.on hd 6 39 (RY.p (.int .i64 (i:Int)) (by simp[execOp,go_sem,RY.K hk 4 (.int .i64 (i:Int))]))
    |10,rfl=>
     exact RY.on hd 6 39 (RY.p (.pointer (some ⟨p,o+i*3,none⟩)) (by simp[execOp,go_sem,RY.E hd 8 41,RY.E hd 9 42,eT,gN]))
    |11,rfl=>
     have gd:=hd 6 _ 39 rfl rfl ⟨⟨6,.guard⟩,by simp,rfl,rfl⟩;have v43:a.eval (.tmp 43)=.pointer (some ⟨p,o+i*3,none⟩):=hd 10 _ 43 rfl rfl ⟨⟨10,.data⟩,by simp,rfl,rfl⟩;exact Or.inl ⟨(RY.ak rfl rfl rfl gd).trans rfl,Or.inl ⟨_,X,aq 32 _ rfl p (o+i*3) v43 [.string y.kind,.string y.name,.slice la acc.length lc] _ (aA eB.out iI.out hX) Try.underlying32 rfl (by kernel_rfl),zR,rfl⟩⟩
    |12,rfl=>
     exact RY.on hd 6 39 (RY.p (.slice (some ⟨rp,ro,none⟩) nr rc) (by simp[execOp,go_sem,RY.K hk 5 (.slice (some ⟨rp,ro,none⟩) nr rc)]))
    |13,rfl=>
     exact RY.on hd 6 39 (RY.p (.int .i64 (k:Int)) (by simp[execOp,go_sem,RY.K hk 6 (.int .i64 (k:Int))]))
    |14,rfl=>
     exact RY.on hd 6 39 (RY.p (.pointer (some ⟨rp,ro+k*4,none⟩)) (by simp[execOp,go_sem,RY.E hd 12 45,RY.E hd 13 46,dd,de]))
    |15,rfl=>
     exact RY.on hd 6 39 (RY.p (.pointer (some ⟨rp,ro+k*4,none⟩)) (by simp[execOp,go_sem,RY.E hd 14 47]))
    |16,rfl=>
     have e48:=RY.E hd 15 48;have yp:=zL ic.out hX.size;have yc:X.cell? ⟨rp,ro+k*4,none⟩=some (.string r.key):=by have q:=aF (aA lk.out ic.out hX) 0 _ rfl;simpa using q
     exact RY.on hd 6 39 (RY.p (.string r.key) (by simp[execOp,go_sem,e48,yc]))
    |17,rfl=>
     have e44:=RY.E hd 11 44;have e49:=RY.E hd 16 49;refine RY.on hd 6 39 (.inr ⟨24,#[.agg #[.string y.kind,.string y.name,.slice la acc.length lc],.string r.key],by simp[go_sem,e44,e49],(HCO.out X hX).mono ?_⟩);rintro e W' ⟨v,F,rfl,hr,nd,fr,hb⟩;obtain⟨a1,m1,rfl⟩:=hr.raw.aP;exact⟨_,rfl,hb,a1,m1,rfl⟩
    |18,rfl=>
     have gd:=hd 6 _ 39 rfl rfl ⟨⟨6,.guard⟩,by simp,rfl,rfl⟩;obtain⟨a50,m50,q50⟩:=hd 17 _ 50 rfl rfl ⟨⟨17,.data⟩,by simp,rfl,rfl⟩;have e50:a.tmps[50]?.getD undef=.slice a50 (Pl.aI acc r.key).length m50:=(RY.af a 50).trans q50;exact Or.inl ⟨(RY.ak rfl rfl rfl gd).trans rfl,Or.inl ⟨.int .i64 ((Pl.aI acc r.key).length:Int),X,by simp[go_sem,e50],zR,rfl⟩⟩
    |19,rfl=>
     exact RY.on hd 6 39 (RY.p (.bool (decide ((Pl.aI acc r.key).length=0))) (by simp[execOp,go_sem,RY.E hd 18 51,hfe]))
    |20,rfl=>
     exact RY.n (RY.p (.bool (decide ((Pl.aI acc r.key).length=0))) (by simp[execOp,go_sem,RY.E hd 6 39,RY.E hd 19 52]))
    |n+21,ho=>simp at ho
   intro X vs hX bd;have q53:vs 53=_:=bd 20 _ 53 rfl rfl;simp only[RY.aE,Act.put,List.setIfInBounds_toArray,List.set_cons_zero,List.set_cons_succ];rw[q53];generalize vs 33=og,vs 34=oz,vs 35=k6,vs 36=k9,vs 37=lj,vs 38=lY,vs 39=mu,vs 40=s40,vs 41=s41,vs 42=s42,vs 43=s43,vs 44=s44,vs 45=s45,vs 46=s46,vs 47=s47,vs 48=s48,vs 49=s49,vs 50=qG,vs 51=s51,vs 52=s52;clear bd q53;replace HO:=uh (HO.out.ae hX)
   replace tf:=uh (tf.out.ae hX)
   replace JD:=uh (JD.out.ae hX)
   replace DF:=uh (DF.out.ae hX)
   replace eB:=uh (aA eB.out iI.out hX)
   replace iI:=uh (zL iI.out hX.size)
   replace lk:=uh (aA lk.out ic.out hX)
   replace ic:=uh (zL ic.out hX.size)
   replace Iq:=uh (And.intro Iq.out.1 (Nat.le_trans Iq.out.2 hX.size))
   clear hX HCO hfe;cases hfr:decide ((Pl.aI acc r.key).length=0)
   ·have IW:Hid (Pl.cp y.kind y.lines (rs.take (k+1))=acc):=by show _=_;rw[jJ.out];unfold Pl.cj;rw[ld,hfr];rfl
    rw[← IW.out]at HO;go_wp2;go_roundw
    case rel=>exact⟨k+1,by omega,by go_num,tf.out,HO.out⟩
    case measure=>simp[intOf];omega
   have IW:Hid (Pl.cp y.kind y.lines (rs.take (k+1))=Pl.dD y.kind acc ⟨r.key,r.dflt⟩):=by show _=_;rw[jJ.out];unfold Pl.cj;rw[ld,hfr];rfl
   obtain⟨X0,JN⟩:∃ X0,X0=X:=⟨_,rfl⟩
   rw[← JN]at HO tf JD DF eB iI lk ic Iq ⊢;clear JN;have HCP:=uh (fun (X:World) (hX:Bel X0 X)=>i3 (S:=fun b=>lo≤b∧b≠p) (B:=N) (lo:=N) ⟨y.kind,y.name,acc⟩ ⟨r.key,r.dflt⟩ (.slice la acc.length lc) (.slice a3 r.dflt.length c3) X (JD.out.ae hX) (DF.out.ae hX) (by have:=BW.out.1;show acc.length≤_;omega) (by have:=Iq.out.2;have:=hX.size;omega));go_upto_region 12 with fail
   refine RY.ly X0 zR (VFc lo N px p o n m2 i rp ro nr rc k y acc r la a3 lc c3) (Aa _ _ _ _ _ _ _ _ _ _ _ _ _ _ _ _ _ _ _ _) (fun _ W'=>mz lo p W' [.row 40 aC] [bQ rs] [.slice (some ⟨rp,ro,none⟩) nr rc]∧Xw w b0 px p o n m2 lo (.slice va n vc) (cur.set i ⟨y.kind,y.name,Pl.dD y.kind acc ⟨r.key,r.dflt⟩⟩) W') 21 12 (by kernel_rfl) (by kernel_rfl) (by kernel_rfl) (by kernel_rfl) rfl [19,20] (by kernel_rfl) (by kernel_rfl) _ rfl rfl (by kernel_rfl) ?_ ?_ ?_
   ·intro ii o' ho Kr a X hX hk hd;have zpx:=HO.out.x.ae hX;have zpxl:=zpx.lt;match ii,ho with
    |0,rfl|3,rfl=>
     exact RY.p (.pointer (some ⟨px,0,none⟩)) (by simp[execOp,go_sem,RY.K hk 3 (.pointer (some ⟨px,0,none⟩))])
    |1,rfl=>
     have e54:=RY.E1 hd 0 54;have yc:=zpx.get 0 _ rfl;exact RY.p (.slice (some ⟨p,o,none⟩) n m2) (by simp[execOp,go_sem,e54,yc])
    |2,rfl|5,rfl=>
     exact RY.p (.int .i64 (i:Int)) (by simp[execOp,go_sem,RY.K hk 4 (.int .i64 (i:Int))])
    |4,rfl=>
     have e57:=RY.E1 hd 3 57;have yc:=zpx.get 0 _ rfl;exact RY.p (.slice (some ⟨p,o,none⟩) n m2) (by simp[execOp,go_sem,e57,yc])
    |6,rfl=>
     exact RY.p (.pointer (some ⟨p,o+i*3,none⟩)) (by simp[execOp,go_sem,RY.E1 hd 4 58,RY.E1 hd 5 59,eT,gN])
    |7,rfl=>
     have v60:a.eval (.tmp 60)=.pointer (some ⟨p,o+i*3,none⟩):=hd 6 _ 60 rfl rfl ⟨⟨6,.data⟩,by simp,rfl,rfl⟩ (by decide);exact Or.inl ⟨_,X,aq 32 _ rfl p (o+i*3) v60 [.string y.kind,.string y.name,.slice la acc.length lc] _ (aA eB.out iI.out hX) Try.underlying32 rfl (by kernel_rfl),zR,rfl⟩
    |8,rfl|13,rfl=>
     exact RY.p (.slice (some ⟨rp,ro,none⟩) nr rc) (by simp[execOp,go_sem,RY.K hk 5 (.slice (some ⟨rp,ro,none⟩) nr rc)])
    |9,rfl|14,rfl=>
     exact RY.p (.int .i64 (k:Int)) (by simp[execOp,go_sem,RY.K hk 6 (.int .i64 (k:Int))])
    |10,rfl=>
     exact RY.p (.pointer (some ⟨rp,ro+k*4,none⟩)) (by simp[execOp,go_sem,RY.E1 hd 8 62,RY.E1 hd 9 63,dd,de])
    |11,rfl=>
     exact RY.p (.pointer (some ⟨rp,ro+k*4,none⟩)) (by simp[execOp,go_sem,RY.E1 hd 10 64])
    |12,rfl=>
     have e65:=RY.E1 hd 11 65;have yp:=zL ic.out hX.size;have yc:X.cell? ⟨rp,ro+k*4,none⟩=some (.string r.key):=by have q:=aF (aA lk.out ic.out hX) 0 _ rfl;simpa using q
     exact RY.p (.string r.key) (by simp[execOp,go_sem,e65,yc])
    |15,rfl=>
     exact RY.p (.pointer (some ⟨rp,ro+k*4,none⟩)) (by simp[execOp,go_sem,RY.E1 hd 13 67,RY.E1 hd 14 68,dd,de])
    |16,rfl=>
     exact RY.p (.pointer (some ⟨rp,ro+k*4+3,none⟩)) (by simp[execOp,go_sem,RY.E1 hd 15 69])
    |17,rfl=>
     have e70:=RY.E1 hd 16 70;have yp:=zL ic.out hX.size;have yc:X.cell? ⟨rp,ro+k*4+3,none⟩=some (.slice a3 r.dflt.length c3):=by have q:=aF (aA lk.out ic.out hX) 3 _ rfl;simpa using q
     exact RY.p (.slice a3 r.dflt.length c3) (by simp[execOp,go_sem,e70,yc])
    |18,rfl=>
     exact RY.p (.agg #[.string r.key,.slice a3 r.dflt.length c3]) (by simp[execOp,go_sem,RY.E1 hd 12 66,RY.E1 hd 17 71])
    |19,rfl=>
     have e61:=RY.E1 hd 7 61;have e72:=RY.E1 hd 18 72;refine Or.inr ⟨25,#[.agg #[.string y.kind,.string y.name,.slice la acc.length lc],.agg #[.string r.key,.slice a3 r.dflt.length c3]],by simp[go_sem,e61,e72],(HCP.out X hX).mono ?_⟩;rintro e W' ⟨cc,rfl,hr,hb⟩;exact⟨_,rfl,hb,cc,rfl,hr⟩
    |20,rfl=>
     exact RY.p (.pointer (some ⟨p,o+i*3,none⟩)) (by simp[execOp,go_sem,RY.E1 hd 1 55,RY.E1 hd 2 56,eT,gN])
    |n+21,ho=>omega
   ·intro a X vals hX hk hV hd;obtain⟨cc,e1,hD⟩:=hV 19 (by decide);have e2:a.eval (.tmp 73)=_:=(hd 19 _ 73 rfl rfl ⟨⟨19,.data⟩,by simp,rfl,rfl⟩ (by decide)).trans e1;have e3:a.eval (.tmp 74)=.pointer (some ⟨p,o+i*3,none⟩):=(hd 20 _ 74 rfl rfl ⟨⟨20,.data⟩,by simp,rfl,rfl⟩ (by decide)).trans (hV 20 (by decide));obtain⟨xa2,xc2,hc,J5⟩:=lN hD;subst hc;have hO2:=HO.out.ae hX;have bG:X.there p (o+i*3) 3:=hO2.row.there (by rw[List.length_set,lU.out];exact bN);refine⟨X.setCells p (o+i*3) [.string y.kind,.string y.name,.slice xa2 (Pl.dD y.kind acc ⟨r.key,r.dflt⟩).length xc2],RY.cn _ _ _ rfl e3 e2 bG (by kernel_rfl) (by simp[Value.oneCell']), ?_, ?_⟩
    ·exact(tf.out.ae hX).aY (aN (S:=fun b=>b=p) rfl _ _ _)
    ·have:=hO2.put iG.out oI.out BT.out (by rw[List.length_set,lU.out];exact bN) ⟨y.kind,y.name,Pl.dD y.kind acc ⟨r.key,r.dflt⟩⟩ J5 Iq.out.1;rw[Pl.zO]at this;exact this
   ·intro vals vs X hK bd;simp only[RY.aE,Act.put,List.setIfInBounds_toArray,List.set_cons_zero,List.set_cons_succ];generalize vs 54=s54,vs 55=s55,vs 56=s56,vs 57=s57,vs 58=s58,vs 59=s59,vs 60=s60,vs 61=s61,vs 62=s62,vs 63=s63,vs 64=s64,vs 65=s65,vs 66=s66,vs 67=s67,vs 68=s68,vs 69=s69,vs 70=s70,vs 71=s71,vs 72=s72,vs 73=s73,vs 74=s74;clear bd;obtain⟨hR,hO⟩:=hK;rw[← IW.out]at hO;have mq:=uh (And.intro hR hO);clear hO hR HO tf;go_wp2;go_roundw
    case rel=>exact⟨k+1,by omega,by go_num,mq.out.1,mq.out.2⟩
    case measure=>simp[intOf];omega
namespace RY
theorem wk {P:Program} {id:Nat} {Q:Exit→Act→World→Prop} {a0:Act} {w:World} {l:List Oper} (v:World) (hv:Bel v w)
  (V:Nat→Value→World→Option Nat→Prop) (hVm:∀ j u W W' A,Bel W W'→V j u W A→V j u W' A) (hVa:∀ j u W,V j u W none→V j u W (some W.heap.size))
  (K:(Nat→Value)→World→Prop) (n fuel:Nat)
  (hm:P.follows .mixedOrders=true) (hasc:asc .any l.toArray=true) (hap:cZ l=true) (dc:dr l a0.tmps.size=true)
  (hlen:l.length=n+1) (D:List Nat) (hD:(D.all fun d=>decide (d<n)&&waits l n d)=true)
  (hclo:((List.range n).all fun i=>(clo l fuel D).contains i)=true)
  (oS:Oper) (hS:l[n]? =some oS) (hSd:oS.dst=none)
  (jO:((l.take n).all fun o=>o.dst.isSome)=true)
  (iA kA:Nat) (oA:Oper) (hA:l[iA]? =some oA) (hAd:oA.dst=some kA) (hAn:iA<n) (T:TypeId) (zs:List Value)
  (r5:∀ (a:Act) (W:World),(execOp a.eval oA).run P W=.ok (.value (.pointer (some ⟨W.heap.size,0,none⟩))) (W.alloc (.cells zs.toArray T)))
  (jc:∀ (i:Nat) (o:Oper),l[i]? =some o→i<n→i≠iA→∀ (a:Act) (W:World) (A:Option Nat),Bel v W→(∀ q,A=some q→q<W.heap.size)→(∀ k,cW l k=true→a.eval (.tmp k)=a0.eval (.tmp k))→
   (∀ (j:Nat) (o':Oper) (k:Nat),l[j]? =some o'→o'.dst=some k→(∃ e∈o.after,e.on=j∧Region.binds .any e=true)→j<n→j≠iA→V j (a.eval (.tmp k)) W A)→
   (∃ u W',(execOp a.eval o).run P W=.ok (.value u) W'∧Bel W W'∧V i u W' A)∨
   (∃ f args,(execOp a.eval o).run P W=.ok (.enter f args) W∧Calls P f args W fun e W'=>∃ u,e=.returned u∧Bel W W'∧V i u W' A))
  (lZ:∀ (a:Act) (W:World) (vals:Nat→Value) (q:Nat),Bel v W→(∀ k,cW l k=true→a.eval (.tmp k)=a0.eval (.tmp k))→vals iA=.pointer (some ⟨q,0,none⟩)→v.heap.size≤q→aL W q T zs.length→(∀ j,j<n→j≠iA→V j (vals j) W (some q))→
   (∀ (j:Nat) (o':Oper) (k:Nat),l[j]? =some o'→o'.dst=some k→(∃ e∈oS.after,e.on=j∧Region.binds .any e=true)→j<n→a.eval (.tmp k)=vals j)→
   ∃ W',(execOp a.eval oS).run P W=.ok .skip W'∧K vals W')
  (hend:∀ (vals vs:Nat→Value) (W:World),K vals W→(∀ (i:Nat) (o:Oper) (k:Nat),l[i]? =some o→o.dst=some k→vs k=vals i)→Q .normal (aE l a0 vs) W):
  (Code.region id l.toArray true).wp P Q a0 w:=by
 rw[List.all_eq_true]at hD;refine lH (fun _ _=>True) (fun up vals W=>(up n=false→Bel v W∧∃ A:Option Nat,(up iA=false→A=none)∧(up iA=true→∃ q,A=some q∧vals iA=.pointer (some ⟨q,0,none⟩)∧v.heap.size≤q∧aL W q T zs.length)∧∀ j,j<n→j≠iA→up j=true→V j (vals j) W A)∧(up n=true→K vals W)) hm hasc hap dc ?_ ?_ ?_
 ·intro vals;exact⟨fun _=>⟨Below.drew hv,none,fun _=>rfl,fun h=>by simp at h,fun j _ _ h=>by simp at h⟩,fun h=>by simp at h⟩
 ·intro up vals i o ho hi gk a W hk fB hT;have lr:i<n+1:=by rw[← hlen];exact(List.getElem?_eq_some_iff.1 ho).1
  have te:(∀ d∈D,up d=true)→∀ j,j<n→up j=true:=fun h j hj=>by
   rw[List.all_eq_true]at hclo;have:=hclo j (by simp;omega);exact im gk fuel D h j (by simpa using this)
  by_cases oV:up n=true
  ·exfalso;have bC:∀ j,j<n+1→up j=true:=fun j hj=>by
    by_cases e:j=n
    ·rw[e];exact oV
    ·exact te (fun d hd=>by
      have h2:=hD d hd;rw[Bool.and_eq_true,decide_eq_true_eq]at h2;obtain⟨e,he,mF,uG⟩:=bm h2.2 hS;rw[← mF];exact gk n oS e hS he uG oV) j (by omega)
   rw[bC i lr]at hi;cases hi
  ·have oV:up n=false:=by simpa using oV
   obtain⟨Dh,A,Iv,MV,hV⟩:=hT.1 oV;have fA:i<n→o.dst.isSome=true:=fun h=>by
    rw[List.all_eq_true]at jO;exact jO _ (List.mem_of_getElem? (i:=i) (by rw[List.getElem?_take_of_lt h];exact ho))
   have Mz:i<n→¬ n=i:=fun h=>by omega
   by_cases gN:i<n
   ·by_cases Jk:i=iA
    ·subst Jk;obtain rfl:o=oA:=Option.some.inj (ho.symm.trans hA);have hAN:A=none:=Iv hi;subst hAN;have hb:Bel W (W.alloc (.cells zs.toArray T)):=ah zR _;refine Or.inl ⟨_,_,r5 a W,fA gN,trivial,fun _=>⟨ai Dh hb,some W.heap.size,fun h=>by simp at h,fun _=>⟨W.heap.size,rfl,by simp,Dh.size,aL.alloc W _ _ _ (by simp)⟩,fun j hj Dc hu=> ?_⟩,fun h=> ?_⟩
     ·have hu:up j=true:=by simpa [Dc]using hu
      simp only[Dc,if_false];exact hVm _ _ _ _ _ hb (hVa _ _ _ (hV j hj Dc hu))
     ·have:up n=true:=by simpa [Mz gN]using h
      rw[oV]at this;cases this
    ·have Lw:∀ q,A=some q→q<W.heap.size:=fun q e=>by
      cases h:up iA
      ·rw[Iv h]at e;cases e
      ·obtain⟨q',e1,_,_,e4⟩:=MV h;rw[e1]at e;injection e with e;subst e;exact e4.lt
     have Mf:¬ iA=i:=fun e=>Jk e.symm;have key:∀ u W',Bel W W'→V i u W' A→((fun j=>(j==i)||up j) n=false→Bel v W'∧∃ A:Option Nat,((fun j=>(j==i)||up j) iA=false→A=none)∧((fun j=>(j==i)||up j) iA=true→∃ q,A=some q∧(fun j=>if j=i then u else vals j) iA=.pointer (some ⟨q,0,none⟩)∧v.heap.size≤q∧aL W' q T zs.length)∧∀ j,j<n→j≠iA→(fun j=>(j==i)||up j) j=true→V j ((fun j=>if j=i then u else vals j) j) W' A)∧((fun j=>(j==i)||up j) n=true→K (fun j=>if j=i then u else vals j) W'):=fun u W' hW oe=>by
      refine⟨fun _=>⟨ai Dh hW,A,fun h=>Iv (by simpa [Mf]using h),fun h=> ?_,fun j hj Dc hu=> ?_⟩,fun h=> ?_⟩
      ·obtain⟨q,e1,e2,e3,e4⟩:=MV (by simpa [Mf]using h);exact⟨q,e1,by simpa [Mf]using e2,e3,e4.ae hW⟩
      ·by_cases e:j=i
       ·simp only[e,if_true];exact oe
       ·have hu:up j=true:=by simpa [e]using hu
        simp only[e,if_false];exact hVm _ _ _ _ _ hW (hV j hj Dc hu)
      ·have:up n=true:=by simpa [Mz gN]using h
       rw[oV]at this;cases this
     rcases jc i o ho gN Jk a W A Dh Lw hk (fun j o' k hj jA hd mR Dc=>by
       obtain⟨q1,q2,_⟩:=fB j o' k hj jA hd;rw[q2];exact hV j mR Dc q1) with⟨u,W',hr,hW,oe⟩|⟨f,args,hr,hc⟩
     ·exact Or.inl ⟨u,W',hr,fA gN,trivial,key u W' hW oe⟩
     ·refine Or.inr (Or.inr ⟨f,args,hr,fA gN,hc.mono ?_⟩);rintro e W' ⟨u,rfl,hW,oe⟩;exact⟨u,rfl,trivial,key u W' hW oe⟩
   ·obtain rfl:i=n:=by omega
    rw[hS]at ho;injection ho with ho
    subst ho;have eS:∀ j,j<i→up j=true:=te fun d hd=>by
     have h2:=hD d hd;rw[Bool.and_eq_true,decide_eq_true_eq]at h2;obtain⟨e,he,mF,uG⟩:=bm h2.2 hS;have xJ:d<l.length:=by rw[hlen];omega
     have hq:(l[d]).dst.isSome=true:=by
      rw[List.all_eq_true]at jO;exact jO _ (List.mem_of_getElem? (i:=d) (by rw[List.getElem?_take_of_lt h2.1];simp))
     obtain⟨k,jA⟩:=Option.isSome_iff_exists.1 hq;exact(fB d l[d] k (by simp) jA ⟨e,he,mF,uG⟩).1
    obtain⟨q,e1,e2,e3,e4⟩:=MV (eS iA hAn);subst e1;obtain⟨W',hr,hK⟩:=lZ a W vals q Dh hk e2 e3 e4 (fun j hj Dc=>hV j hj Dc (eS j hj)) (fun j o' k hj jA hd mR=>(fB j o' k hj jA hd).2.1);exact Or.inr (Or.inl ⟨W',hr,hSd,fun h=>by simp at h,fun _=>hK⟩)
 ·intro up vals vs W bC fK hT;exact hend vals vs W (hT.2 (bC n (by omega))) (fun i o k hi hd=>(fK i o k hi hd).1)
end RY
def VTa (pb:Nat) (p2:Nat) (o2:Nat) (lc:Nat) (k:Nat) (j:Nat) (y:Pl.Bl) (x:Pl.Ln) (r:Pl.Ru):Nat→Value→World→Option Nat→Prop
 |0,vv,_,_=>vv=.pointer (some ⟨pb,0,none⟩)
 |1,vv,_,_=>vv=.string y.kind
 |2,vv,W,A_=>∃ v F,vv=v∧Rep W false [.row 40 aC] F [bQ (Pl.aj y.kind)] [v]∧∀ b∈F,A_≠some b
 |3,vv,_,_=>vv=.pointer (some ⟨pb,0,none⟩)
 |4,vv,_,_=>vv=.string y.kind
 |5,vv,_,_=>vv=.pointer (some ⟨pb,2,none⟩)
 |6,vv,_,_=>vv=.slice (some ⟨p2,o2,none⟩) y.lines.length lc
 |7,vv,_,_=>vv=.int .i64 (k:Int)
 |8,vv,_,_=>vv=.pointer (some ⟨p2,o2+k*2,none⟩)
 |9,vv,_,_=>vv=.pointer (some ⟨p2,o2+k*2,none⟩)
 |10,vv,_,_=>vv=.string x.key
 |11,vv,_,_=>vv=.int .i64 (j:Int)
 |12,vv,W,A_=>∃ rp ro,vv=.pointer (some ⟨rp,ro+j*4,none⟩)∧rp<W.heap.size∧∃ a1 c1 a3 c3 F,W.rangeAt rp (ro+j*4) [.string r.key,.slice a1 r.args.length c1,.bool r.many,.slice a3 r.dflt.length c3]∧Rep W false cA F [.row r.dflt.length (txD r.dflt)] [.slice a3 r.dflt.length c3]∧∀ b∈F,A_≠some b
 |13,vv,W,A_=>∃ a1 c1 a3 c3 F,vv=.agg #[.string r.key,.slice a1 r.args.length c1,.bool r.many,.slice a3 r.dflt.length c3]∧Rep W false cA F [.row r.dflt.length (txD r.dflt)] [.slice a3 r.dflt.length c3]∧∀ b∈F,A_≠some b
 |14,_,_,_=>True
 |_,_,_,_=>True
theorem yM (pb:Nat) (p2:Nat) (o2:Nat) (lc:Nat) (k:Nat) (j:Nat) (y:Pl.Bl) (x:Pl.Ln) (r:Pl.Ru):∀ jj vv W W' A_,Bel W W'→VTa pb p2 o2 lc k j y x r jj vv W A_→VTa pb p2 o2 lc k j y x r jj vv W' A_:=by
 intro jj vv W W' A_ hb h;match jj with
 |0=>exact h
 |1=>exact h
 |2=>
  obtain⟨v,F,h1,h2,h3⟩:=h;exact⟨v,F,h1,h2.ae hb,h3⟩
 |3=>exact h
 |4=>exact h
 |5=>exact h
 |6=>exact h
 |7=>exact h
 |8=>exact h
 |9=>exact h
 |10=>exact h
 |11=>exact h
 |12=>
  obtain⟨rp,ro,h1,h2,a1,c1,a3,c3,F,h3,h4,h5⟩:=h;exact⟨rp,ro,h1,zL h2 hb.size,a1,c1,a3,c3,F,aA h3 h2 hb,h4.ae hb,h5⟩
 |13=>
  obtain⟨a1,c1,a3,c3,F,h1,h2,h3⟩:=h;exact⟨a1,c1,a3,c3,F,h1,h2.ae hb,h3⟩
 |14=>exact h
 |n+15=>exact trivial
theorem Fv (pb:Nat) (p2:Nat) (o2:Nat) (lc:Nat) (k:Nat) (j:Nat) (y:Pl.Bl) (x:Pl.Ln) (r:Pl.Ru):∀ jj vv W,VTa pb p2 o2 lc k j y x r jj vv W none→VTa pb p2 o2 lc k j y x r jj vv W (some W.heap.size):=by
 intro jj vv W h;match jj with
 |0=>exact h
 |1=>exact h
 |2=>
  obtain⟨v,F,h1,h2,h3⟩:=h;exact⟨v,F,h1,h2,fun b hb e=>by injection e with e;have:=h2.lt b hb;omega⟩
 |3=>exact h
 |4=>exact h
 |5=>exact h
 |6=>exact h
 |7=>exact h
 |8=>exact h
 |9=>exact h
 |10=>exact h
 |11=>exact h
 |12=>
  obtain⟨rp,ro,h1,h2,a1,c1,a3,c3,F,h3,h4,h5⟩:=h;exact⟨rp,ro,h1,h2,a1,c1,a3,c3,F,h3,h4,fun b hb e=>by injection e with e;have:=h4.lt b hb;omega⟩
 |13=>
  obtain⟨a1,c1,a3,c3,F,h1,h2,h3⟩:=h;exact⟨a1,c1,a3,c3,F,h1,h2,fun b hb e=>by injection e with e;have:=h2.lt b hb;omega⟩
 |14=>exact h
 |n+15=>exact trivial
def VTb (q:Nat):Nat→Value→World→Prop
 |0,vv,_=>vv=.pointer (some ⟨q,2,none⟩)
 |1,vv,_=>vv=.bool true
 |2,vv,_=>vv=.bool true
 |3,vv,_=>vv=undef
 |4,vv,_=>vv=undef
 |5,vv,_=>vv=undef
 |6,vv,_=>vv=undef
 |7,vv,_=>vv=undef
 |8,vv,_=>vv=undef
 |9,vv,_=>vv=undef
 |10,vv,_=>vv=undef
 |11,vv,_=>vv=undef
 |12,vv,_=>vv=undef
 |13,vv,_=>vv=.bool true
 |_,_,_=>True
theorem yJ (q:Nat):∀ jj vv W W',Bel W W'→VTb q jj vv W→VTb q jj vv W':=by
 intro jj vv W W' hb h;match jj with
 |0=>exact h
 |1=>exact h
 |2=>exact h
 |3=>exact h
 |4=>exact h
 |5=>exact h
 |6=>exact h
 |7=>exact h
 |8=>exact h
 |9=>exact h
 |10=>exact h
 |11=>exact h
 |12=>exact h
 |13=>exact h
 |n+14=>exact trivial
def VTc (pb:Nat) (q:Nat) (p2:Nat) (o2:Nat) (lc:Nat) (k:Nat) (y:Pl.Bl) (x:Pl.Ln) (r:Pl.Ru) (a3:Option Addr) (aw:Option Addr) (c3:Nat) (cw:Nat):Nat→Value→World→Prop
 |0,vv,_=>vv=.pointer (some ⟨q,2,none⟩)
 |1,vv,_=>vv=.bool false
 |2,vv,_=>vv=.bool false
 |3,vv,_=>vv=.pointer (some ⟨q,3,none⟩)
 |4,vv,_=>vv=.slice a3 r.dflt.length c3
 |5,vv,_=>vv=.pointer (some ⟨pb,2,none⟩)
 |6,vv,_=>vv=.slice (some ⟨p2,o2,none⟩) y.lines.length lc
 |7,vv,_=>vv=.int .i64 (k:Int)
 |8,vv,_=>vv=.pointer (some ⟨p2,o2+k*2,none⟩)
 |9,vv,_=>vv=.pointer (some ⟨p2,o2+k*2+1,none⟩)
 |10,vv,_=>vv=.slice aw x.ws.length cw
 |11,vv,_=>vv=.bool (Pl.bO r.dflt x.ws)
 |12,vv,_=>vv=.bool (!Pl.bO r.dflt x.ws)
 |13,vv,_=>vv=.bool (!Pl.bO r.dflt x.ws)
 |_,_,_=>True
theorem AI (pb:Nat) (q:Nat) (p2:Nat) (o2:Nat) (lc:Nat) (k:Nat) (y:Pl.Bl) (x:Pl.Ln) (r:Pl.Ru) (a3:Option Addr) (aw:Option Addr) (c3:Nat) (cw:Nat):∀ jj vv W W',Bel W W'→VTc pb q p2 o2 lc k y x r a3 aw c3 cw jj vv W→VTc pb q p2 o2 lc k y x r a3 aw c3 cw jj vv W':=by
 intro jj vv W W' hb h;match jj with
 |0=>exact h
 |1=>exact h
 |2=>exact h
 |3=>exact h
 |4=>exact h
 |5=>exact h
 |6=>exact h
 |7=>exact h
 |8=>exact h
 |9=>exact h
 |10=>exact h
 |11=>exact h
 |12=>exact h
 |13=>exact h
 |n+14=>exact trivial
theorem tW (s:List Pl.Bl) (v:Value) (w:World) (h:Raw w aV [aW s] [v]) (hs:∀ b∈s,Sm 1048576 b):
  Calls Try.prog 9 #[.agg #[v]] w (Ans bX [aW (Pl.bR s)] w):=by
 have HL:=uh h;have BF:=uh hs;obtain⟨va,vc,ev⟩:=h.aP;subst ev;clear h hs;obtain⟨wa,aS⟩:∃ wa,wa=(w.alloc (.cells #[.slice va s.length vc] 25)).alloc (.cells #[.slice none 0 0] 25):=⟨_,rfl⟩
 obtain⟨b0,bD⟩:∃ b0,b0=w.heap.size:=⟨_,rfl⟩
 have iG:=uh bD;have HB:Hid (Bel w wa):=by show Below _ _ _;rw[aS];exact ah (ah zR _) _
 have iL:Hid (aD wa b0 [.slice va s.length vc]):=by show aD _ _ _;rw[aS,bD];exact(aD.new w #[.slice va s.length vc] _ _ rfl).fI _
 have jf:Hid (aK wa (b0+1) 25 [.slice none 0 0]):=by show aK _ _ _ _;rw[aS,bD];exact aK.new (w.alloc (.cells #[.slice va s.length vc] 25)) [.slice none 0 0] 25 _ (by simp)
 go_enter Try.func9,Try.ntmps9
 go_upto_region 1 with fail
 rw[← aS,← bD];clear aS bD;have oT:=uh (fun (X:World) (hX:Bel w X)=>gx s (.slice va s.length vc) X (HL.out.ae hX) (El BF.out));have xz:=iL.out.lt;have xa:=iL.out.at_;go_wp2_with (refine wpList_load_mid rfl 25 _ rfl b0 0 rfl [.slice va s.length vc] _ xa Try.underlying25 rfl (by kernel_rfl) ?_)
 refine(oT.out wa HB.out).mono ?_;rintro e w1 ⟨rfl,hb⟩;replace HB:=uh (ai HB.out hb)
 replace iL:=uh (iL.out.ae hb)
 replace jf:=uh (jf.out.ae hb)
 clear hb xz xa oT;cases bd:Pl.aM s
 ·have HE:Hid (Pl.bR s=[]):=by show _=_;unfold Pl.bR;rw[bd];rfl
  have cC:=jf;have qR:=HB;have bG:w1.there (b0+1) 0 (#[.slice none 0 0]:Array Value).size:=aR cC.out.own _ _ (by simp);obtain⟨we,bj⟩:∃ we,we=w1.setCells (b0+1) 0 [.slice none 0 0]:=⟨_,rfl⟩
  have dv:we.rangeAt (b0+1) 0 [.slice none 0 0]:=by rw[bj];exact World.rangeAt_setCells_same _ _ _ _ bG
  have iB:Hid (Marks (fun b=>b=b0+1) w1 we):=by show Marks _ _ _;rw[bj];exact aN (S:=fun b=>b=b0+1) rfl _ _ _
  go_wp2_with (refine wpList_store_mid rfl 25 _ _ rfl (b0+1) 0 #[.slice none 0 0] rfl rfl bG (by kernel_rfl) (by simp[Value.oneCell']) ?_)
  first|rw[← bj]|(simp only[List.toList_toArray];rw[← bj])
  try simp only[Act.put]
  refine bodyPost_ret (v:=.agg #[.slice none 0 0]) (by simp[results,Try.results9,asAddr,run_loadVar_mid (P:=Try.prog) _ _ _ 25 [.slice none 0 0] _ dv Try.underlying25 rfl (by kernel_rfl)]) rfl ?_;have hz:=iG.out;rw[HE.out];exact⟨[.slice none 0 0],[],rfl,.emp _ _ _ rfl .nil,List.nodup_nil,by simp,iB.out.below (fun b e=>by omega) qR.out⟩
 have Jr:Hid (Pl.bR s=s.map Pl.dI):=by show _=_;unfold Pl.bR;rw[bd];rfl
 have gj:=Pl.pj bd;have Jo:=uh bd;clear bd;have xz:=iL.out.lt;have xa:=iL.out.at_;have oT:=uh (eH s (.slice va s.length vc) w1 (HL.out.ae HB.out) (by omega) (fun b hb=>⟨Nat.le_trans (BF.out b hb).ln (by omega),fun x hx=>((BF.out b hb).ws x hx).1⟩));go_wp2_with (refine wpList_load_mid rfl 25 _ rfl b0 0 rfl [.slice va s.length vc] _ xa Try.underlying25 rfl (by kernel_rfl) ?_)
 refine oT.out.mono ?_;rintro e w2 ⟨cc,FF,rfl,rep,nd,fr,hb⟩;obtain⟨F2,v2,mD,AY,r2⟩:=du rep;subst AY;obtain⟨a2,m2,fK⟩:=r2.raw.aP;subst fK;rw[mD,List.append_nil]at nd fr;have oI:Hid (b0+2≤w1.heap.size):=jf.out.own.lt;have G5:Hid (∀ b∈F2,b<w2.heap.size):=r2.lt;replace HB:=uh (ai HB.out hb)
 replace iL:=uh (iL.out.ae hb)
 replace jf:=uh (jf.out.ae hb)
 have mi:=uh (And.intro r2 (And.intro nd fr));clear rep nd fr r2 hb xz xa oT mD;obtain⟨lo,eN⟩:∃ lo,lo=w1.heap.size:=⟨_,rfl⟩
 rw[← eN]at oI mi;clear eN;obtain⟨px,qF⟩:∃ px,px=w2.heap.size:=⟨_,rfl⟩
 obtain⟨wx,uK⟩:∃ wx,wx=w2.alloc (.cells #[.slice a2 s.length m2] 25):=⟨_,rfl⟩
 have xW:Bel w2 wx:=by rw[uK];exact ah zR _
 have mQ:Hid (aD wx px [.slice a2 s.length m2]):=by show aD _ _ _;rw[uK,qF];exact aD.new w2 #[.slice a2 s.length m2] _ _ rfl
 replace HB:=uh (ai HB.out xW)
 replace iL:=uh (iL.out.ae xW)
 replace jf:=uh (jf.out.ae xW)
 replace mi:=uh (And.intro (mi.out.1.ae xW) mi.out.2)
 rw[← qF]at G5;clear xW;go_upto_region 4 with fail
 rw[← uK,← qF];clear uK qF;by_cases hz:s.length=0
 ·have Ds:s=[]:=List.eq_nil_of_length_eq_zero hz;subst Ds;have HE:Hid (Pl.bR []=[]):=by show _=_;rw[Jr.out];rfl
  have x0:=mQ.out.get 0 _ rfl;have xl:=mQ.out.lt;have xa:=mQ.out.at_;have j9:=uh (eH [] (.slice a2 0 m2) wx (mi.out.1.raw) (by simp) (by simp));have Lo:¬ ((0:Int)<0):=by omega
  go_wp2;refine wp_loop_rounds 1 ?_;rw[rounds_succ];go_wp2_with (refine wpList_load_mid rfl 25 _ rfl px 0 rfl [.slice a2 0 m2] _ xa Try.underlying25 rfl (by kernel_rfl) ?_)
  refine j9.out.mono ?_;rintro e w3 ⟨cc,FF,rfl,rep,nd,fr,hb⟩;obtain⟨F3,v3,mD,AY,r3⟩:=du rep;subst AY;obtain⟨a3,m3,oh⟩:=r3.raw.aP;subst oh;have cC:=uh (jf.out.ae hb);have qR:=uh (ai HB.out hb);have iE:=uh (And.intro rep (And.intro nd fr));have BL:Hid (b0+1<wx.heap.size):=jf.out.own.lt;clear rep nd fr r3 hb mD xl x0 xa j9;have bG:w3.there (b0+1) 0 (#[.slice a3 0 m3]:Array Value).size:=aR cC.out.own _ _ (by simp);obtain⟨we,bj⟩:∃ we,we=w3.setCells (b0+1) 0 [.slice a3 0 m3]:=⟨_,rfl⟩
  have dv:we.rangeAt (b0+1) 0 [.slice a3 0 m3]:=by rw[bj];exact World.rangeAt_setCells_same _ _ _ _ bG
  have iB:Hid (Marks (fun b=>b=b0+1) w3 we):=by show Marks _ _ _;rw[bj];exact aN (S:=fun b=>b=b0+1) rfl _ _ _
  go_wp2_with (refine wpList_store_mid rfl 25 _ _ rfl (b0+1) 0 #[.slice a3 0 m3] rfl rfl bG (by kernel_rfl) (by simp[Value.oneCell']) ?_)
  first|rw[← bj]|(simp only[List.toList_toArray];rw[← bj])
  try simp only[Act.put]
  refine bodyPost_ret (v:=.agg #[.slice a3 0 m3]) (by simp[results,Try.results9,asAddr,run_loadVar_mid (P:=Try.prog) _ _ _ 25 [.slice a3 0 m3] _ dv Try.underlying25 rfl (by kernel_rfl)]) rfl ?_;have hz:=iG.out;rw[HE.out];exact⟨_,FF,rfl,iE.out.1.aY iB.out (fun b hb e=>by have:=iE.out.2.2 b hb;have:=BL.out;omega),iE.out.2.1,fun b hb=>by have:=iE.out.2.2 b hb;have:=BL.out;omega,iB.out.below (fun b e=>by omega) qR.out⟩
 obtain⟨p,o,c,hv,Cb,dw⟩:=kI mi.out.1 mi.out.2.1 mi.out.2.2 (by omega);injection hv with g1 g2 g3
 subst g1;subst g3;obtain⟨n,hn⟩:∃ n,n=s.length:=⟨_,rfl⟩
 have HN:=uh hn;have BT:Hid (px≠p):=by
  intro e;rcases mi.out.1.slice with⟨_,h0,_⟩|⟨p',o',c',u',m',G',yd,x7,_⟩
  ·omega
  ·injection yd with q1
   injection q1 with q1
   injection q1 with q1
   have:=G5.out p' (by rw[x7];simp);omega
 have H0:Hid (Xw w b0 px p o n m2 lo (.slice va s.length vc) s wx):=⟨HB.out,iL.out,jf.out,by rw[hn];exact mQ.out,dw⟩
 have BR:n≤60:=by omega
 have Dy:Hid (n≤m2):=by show _≤_;rw[hn];exact Cb
 clear HB iL jf mQ mi G5 dw Cb hz gj;rw[← hn];rw[← hn]at H0;clear hn;go_wp2;go_loopw [4] (fun vi wr=>∃ (i:Nat),i≤n∧vi=.int .i64 i∧Xw w b0 px p o n m2 lo (.slice va n vc) (Pl.fp Pl.dI s i) wr) (fun vi _=>n - (intOf vi).toNat)
 case atStart=>exact⟨0,zN,rfl,by rw[Pl.pK];exact H0.out⟩
 case round=>
  obtain⟨i,hi,rfl,hO⟩:=hrel;have HO:=uh hO;clear hO H0;have x0:=HO.out.x.get 0 _ rfl;have xl:=HO.out.x.lt;by_cases bN:i<n
  rotate_left
  ·obtain rfl:i=n:=by omega
   have qE:¬ ((i:Int)<(i:Int)):=by omega
   have MM:Hid (Pl.fp Pl.dI s i=s.map Pl.dI):=by show _=_;rw[HN.out,Pl.sM]
   rw[MM.out]at HO;have tk:Hid ((s.map Pl.dI).length=i):=by show _=_;rw[List.length_map];exact HN.out.symm
   have HE:Hid (Pl.bR s=s.map Pl.dI):=Jr;have Ca:Hid (∀ b∈s.map Pl.dI,b.lines.length≤4194304∧∀ x∈b.lines,x.ws.length≤4194304):=fun b hb=>by
    obtain⟨y,hy,rfl⟩:=List.mem_map.1 hb;have h1:=BF.out y hy;exact⟨Nat.le_trans (List.length_filter_le _ _) (by have:=h1.ln;omega),fun x hx=>(h1.ws x (List.mem_filter.1 hx).1).1⟩
   obtain⟨z,hz⟩:∃ z,z=s.map Pl.dI:=⟨_,rfl⟩
   rw[← hz]at HO tk HE Ca;clear hz;go_upto_region 16 with fail
   clear x0 xl qE;have xa:=HO.out.x.at_;have xl:=HO.out.x.lt;have j9:=uh (eH z (.slice (some ⟨p,o,none⟩) z.length m2) wr (HO.out.row.raw ⟨by rw[tk.out];unfold maxLen;omega,by rw[tk.out];exact Dy.out⟩) (by rw[tk.out];omega) Ca.out);rw[tk.out]at j9;go_wp2_with (refine wpList_load_mid rfl 25 _ rfl px 0 rfl [.slice (some ⟨p,o,none⟩) i m2] _ xa Try.underlying25 rfl (by kernel_rfl) ?_)
   refine j9.out.mono ?_;rintro e w3 ⟨cc,FF,rfl,rep,nd,fr,hb⟩;obtain⟨F3,v3,mD,AY,r3⟩:=du rep;subst AY;obtain⟨a3,m3,oh⟩:=r3.raw.aP;subst oh;have cC:=uh (HO.out.res.ae hb);have qR:=uh (ai HO.out.bel hb);have iE:=uh (And.intro rep (And.intro nd fr));have BL:Hid (b0+1<wr.heap.size):=HO.out.res.own.lt;clear rep nd fr r3 hb mD xl xa j9;have bG:w3.there (b0+1) 0 (#[.slice a3 z.length m3]:Array Value).size:=aR cC.out.own _ _ (by simp);obtain⟨we,bj⟩:∃ we,we=w3.setCells (b0+1) 0 [.slice a3 z.length m3]:=⟨_,rfl⟩
   have dv:we.rangeAt (b0+1) 0 [.slice a3 z.length m3]:=by rw[bj];exact World.rangeAt_setCells_same _ _ _ _ bG
   have iB:Hid (Marks (fun b=>b=b0+1) w3 we):=by show Marks _ _ _;rw[bj];exact aN (S:=fun b=>b=b0+1) rfl _ _ _
   go_wp2_with (refine wpList_store_mid rfl 25 _ _ rfl (b0+1) 0 #[.slice a3 z.length m3] rfl rfl bG (by kernel_rfl) (by simp[Value.oneCell']) ?_)
   first|rw[← bj]|(simp only[List.toList_toArray];rw[← bj])
   try simp only[Act.put]
   refine bodyPost_ret (v:=.agg #[.slice a3 z.length m3]) (by simp[results,Try.results9,asAddr,run_loadVar_mid (P:=Try.prog) _ _ _ 25 [.slice a3 z.length m3] _ dv Try.underlying25 rfl (by kernel_rfl)]) rfl ?_;have hz:=iG.out;rw[HE.out];exact⟨_,FF,rfl,iE.out.1.aY iB.out (fun b hb e=>by have:=iE.out.2.2 b hb;have:=BL.out;omega),iE.out.2.1,fun b hb=>by have:=iE.out.2.2 b hb;have:=BL.out;omega,iB.out.below (fun b e=>by omega) qR.out⟩
  have D6:i<s.length:=by have:=HN.out;omega
  have lU:Hid ((Pl.fp Pl.dI s i).length=n):=by show _=_;rw[HN.out];exact Pl.rU Pl.dI s i (by omega)
  obtain⟨y,hy⟩:∃ y,y=s.getD i Pl.aG:=⟨_,rfl⟩
  have Kk:Hid (Sm 1048576 y):=by show Sm _ _;rw[hy];exact sm_at BF.out D6
  have Dn:=uh (Pl.pz Pl.dI s i D6);have HVL:Hid (∀ k,k<y.lines.length→∃ j,Pl.bJ (Pl.aj y.kind) (y.lines.getD k Pl.aQ).key=some j):=by
   show ∀ k,_→_;rw[hy];exact fun k hk=>Pl.ub Jo.out D6 hk
  have KN:=uh (Pl.rN Pl.dI s i D6);rw[← hy]at Dn KN;obtain⟨pb,Kg⟩:∃ pb,pb=wr.heap.size:=⟨_,rfl⟩
  obtain⟨la,lc,dO,LW⟩:=HO.out.row.at_ (k:=i) (by rw[lU.out];exact bN) (N:=pb+1) (by omega);rw[KN.out]at dO LW;have dc:=HO.out.row.lt;obtain⟨cur,lV⟩:∃ cur,cur=Pl.fp Pl.dI s i:=⟨_,rfl⟩
  rw[← lV]at HO lU Dn KN;clear lV hy;have eT:(0:Int)≤(i:Int):=by omega
  have gN:(i:Int)<(n:Int):=by omega
  obtain⟨wb,fP⟩:∃ wb,wb=wr.alloc (.cells #[.string y.kind,.string y.name,.slice la y.lines.length lc] 32):=⟨_,rfl⟩
  have fL:Bel wr wb:=by rw[fP];exact ah zR _
  have td:Hid (aD wb pb [.string y.kind,.string y.name,.slice la y.lines.length lc]):=by show aD _ _ _;rw[fP,Kg];exact aD.new wr #[.string y.kind,.string y.name,.slice la y.lines.length lc] _ _ rfl
  have uL:Hid (p<pb):=by show _<_;rw[Kg];exact dc
  have Mp:Hid (wb.heap.size=pb+1):=by show _=_;rw[fP,Kg];simp
  have HDY:=uh (LW.ae fL);replace HO:=uh (HO.out.ae fL)
  go_upto_region 8 with(refine wpList_load_mid rfl 32 _ rfl p (o+i*3) rfl [.string y.kind,.string y.name,.slice la y.lines.length lc] _ dO Try.underlying32 rfl (by kernel_rfl) ?_)
  rw[← fP,← Kg];clear fP Kg dO LW fL dc x0 xl eT gN;have MQ:=td;go_wp2;go_loopw [6,7] (fun vo vi wr=>∃ (k:Nat) (xs:List Value) (G:List Nat),k≤y.lines.length∧vi=.int .i64 k∧Sv wb wr 53 au vo ((y.lines.take k).filter (Pl.bM y.kind)).length (((y.lines.take k).filter (Pl.bM y.kind)).flatMap lnD) xs∧Rep wb false (bP ((y.lines.take k).filter (Pl.bM y.kind)).length au) G (((y.lines.take k).filter (Pl.bM y.kind)).flatMap lnD) xs∧(∀ b∈G,lo≤b∧b≠p)∧Bel wb wr) (fun _ vi _=>y.lines.length - (intOf vi).toNat)
  case atStart=>exact⟨0,[],[],zN,rfl,Sv.emp au (heap_alloc_new wb _) zE,.nil,by simp,ah zR _⟩
  case round=>
   obtain⟨k,xs,G,hk,rfl,hS,hR,hG,hB⟩:=hrel;have uH:=uh hS;have yu:=uh (And.intro hR hG);have dV:=uh hB;obtain⟨ua,uc,xK⟩:=hS.shape;subst xK;clear hS hR hG hB;replace td:=uh (MQ.out.ae dV.out)
   have x2:=td.out.get 2 _ rfl;have xl:=td.out.lt;by_cases Bq:k<y.lines.length
   rotate_left
   ·have kg:y.lines.take k=y.lines:=List.take_of_length_le (by omega);rw[kg]at uH yu ⊢;obtain rfl:k=y.lines.length:=by omega
    have qE:¬ ((y.lines.length:Int)<(y.lines.length:Int)):=by omega
    clear kg Bq hk;replace HO:=uh (HO.out.ae dV.out)
    obtain⟨ls,gj⟩:∃ ls,ls=y.lines.filter (Pl.bM y.kind):=⟨_,rfl⟩
    have HTE:Hid (cur.set i ⟨(cur.getD i Pl.aG).kind,(cur.getD i Pl.aG).name,ls⟩=Pl.fp Pl.dI s (i+1)):=by show _=_;rw[← Dn.out,KN.out,gj];rfl
    rw[← gj]at uH yu ⊢;clear gj;obtain⟨FL,rL,hFL⟩:=mV (sh:=au) uH.out.row (yu.out.1.ae dV.out);have AV:Hid (Dat (fun b=>lo≤b∧b≠p) (pb+1) (pb+1) wr aJ [aU ls] [.slice ua ls.length uc]):=by
     refine⟨FL,rL,fun b hb=> ?_⟩;rcases hFL b hb with q|q
     ·exact Or.inr (by have:=Mp.out;omega)
     ·exact Or.inl ⟨yu.out.2 b q,by have:=yu.out.1.lt b q;have:=Mp.out;omega⟩
    have Kv:Hid (p<pb+1):=by show _<_;have:=uL.out;omega
    clear rL hFL;obtain⟨wn,KI⟩:∃ wn,wn=wr.setCell ⟨p,o+i*3+2,none⟩ (.slice ua ls.length uc):=⟨_,rfl⟩
    have lr:i<cur.length:=by rw[lU.out];exact bN
    have mq:Hid (Xw w b0 px p o n m2 lo (.slice va n vc) (Pl.fp Pl.dI s (i+1)) wn):=by
     have hm:Marks (fun b=>b=p) wr wn:=by rw[KI];exact Marks.sc (S:=fun b=>b=p) wr rfl _ _
     have hp:=HO.out.row.lo;have hz:=iG.out;have hl:=oI.out;refine⟨hm.below (fun b e=>by omega) HO.out.bel,HO.out.arg.mks hm (by omega),HO.out.res.mks hm (by omega),HO.out.x.mks hm BT.out, ?_⟩;rw[KI,← HTE.out];exact HO.out.row.Le lr ls AV.out Kv.out
    obtain⟨v0,Mu⟩:=HO.out.row.IV lr;have hcf:=HO.out.row.frozen (o+i*3+2);have gk:=HO.out.row.lt;have lf:=HO.out.x.lt;have uM:=HO.out.x.get 0 _ rfl;have eT:(0:Int)≤(i:Int):=by omega
    have gN:(i:Int)<(n:Int):=by omega
    go_wp2;rw[← KI];clear KI Mu hcf gk lf uM x2 xl qE eT gN;go_roundw
    case rel=>exact⟨i+1,by omega,by go_num,mq.out⟩
    case measure=>simp[intOf];omega
   obtain⟨p2,o2,c2,aw,cw,Gx,hv,oy,dO,dF,hfx⟩:=wj HDY.out (by have:=Mp.out;omega) Bq;injection hv with g1 g2 g3
   subst g1;subst g3;obtain⟨j,hj⟩:=HVL.out k Bq;have Bb:j<(Pl.aj y.kind).length:=Pl.fm hj;obtain⟨x,hx⟩:∃ x,x=y.lines.getD k Pl.aQ:=⟨_,rfl⟩
   have jJ:=uh (Pl.wC (p:=Pl.bM y.kind) Bq);rw[← hx]at dO dF hj jJ;obtain⟨r,hr⟩:∃ r,r=(Pl.aj y.kind).getD j Pl.aO:=⟨_,rfl⟩
   have ez:Hid ((Pl.aj y.kind).getD j Pl.aO=r):=hr.symm;have Jy:Hid (Pl.bM y.kind x=(r.many|| !Pl.bO r.dflt x.ws)):=by show _=_;unfold Pl.bM;rw[hj,hr]
   have Lu:Hid (∀ X,Calls Try.prog 26 #[.string y.kind,.string x.key] X fun e w'=>e=.returned (.int .i64 (j:Int))∧Bel X w'):=fun X=>by
    have:=fS y.kind x.key X;rw[hj]at this;exact this
   have jQ:=uh (And.intro dF hfx);have jB:Hid (Raw wb cA [.row x.ws.length (txD x.ws)] [.slice aw x.ws.length cw]):=by
    obtain⟨v1,hc,r1⟩:=kS dF.raw;injection hc with _ hc
    injection hc with hc _
    rw[hc];exact r1
   have eB:Hid (wr.rangeAt p2 (o2+k*2) [.string x.key,.slice aw x.ws.length cw]):=aA dO oy dV.out;have ka:Hid (p2<wr.heap.size):=zL oy dV.out.size;have dd:(0:Int)≤(k:Int):=by omega
   have de:(k:Int)<(y.lines.length:Int):=by omega
   have th:(0:Int)≤(j:Int):=by omega
   have mR:(j:Int)<((Pl.aj y.kind).length:Int):=by omega
   obtain⟨m,hm⟩:∃ m,m=((y.lines.take k).filter (Pl.bM y.kind)).length:=⟨_,rfl⟩
   have HMl:Hid (m≤y.lines.length):=by
    show _≤_;rw[hm];have:=List.length_filter_le (Pl.bM y.kind) (y.lines.take k);rw[List.length_take]at this;omega
   have HM:=uh hm;rw[← hm]at uH yu ⊢;clear hx hr hj dO oy dF hfx hm;go_upto_region 12 with fail
   clear x2 xl;refine RY.wk wr zR (VTa pb p2 o2 lc k j y x r) (yM _ _ _ _ _ _ _ _ _) (Fv _ _ _ _ _ _ _ _ _) (fun vals W'=>∃ q a1 c1 a3 c3,vals 14=.pointer (some ⟨q,0,none⟩)∧Bel wr W'∧aK W' q 40 [.string r.key,.slice a1 r.args.length c1,.bool r.many,.slice a3 r.dflt.length c3]∧Raw W' cA [.row r.dflt.length (txD r.dflt)] [.slice a3 r.dflt.length c3]) 15 12 (by kernel_rfl) (by kernel_rfl) (by kernel_rfl) (by kernel_rfl) rfl [13,14] (by kernel_rfl) (by kernel_rfl) _ rfl rfl (by kernel_rfl) 14 8 _ rfl rfl (by decide) 40 [.string {data:=#[]},.slice none 0 0,.bool false,.slice none 0 0] ?_ ?_ ?_ ?_
   ·intro a Wx;kernel_rfl
   ·intro ii o' ho Kr Jk a X A_ hX Lw hk hd;have zpb:=td.out.ae hX;have zpbl:=zpb.lt;match ii,ho with
    |0,ho=>
     injection ho with ho;subst ho
     have e5:a.tmps[5]?.getD undef=.pointer (some ⟨pb,0,none⟩):=(RY.af a 5).trans ((hk 5 (by kernel_rfl)).trans rfl);exact Or.inl ⟨.pointer (some ⟨pb,0,none⟩),X,by simp[execOp,go_sem,e5],zR,rfl⟩
    |1,ho=>
     injection ho with ho;subst ho
     have e35:a.tmps[35]?.getD undef=.pointer (some ⟨pb,0,none⟩):=(RY.af a 35).trans (hd 0 _ 35 rfl rfl ⟨⟨0,.data⟩,by simp,rfl,rfl⟩ (by decide) (by decide));have yc:=zpb.get 0 _ rfl;exact Or.inl ⟨.string y.kind,X,by simp[execOp,go_sem,e35,yc],zR,rfl⟩
    |2,ho=>
     injection ho with ho;subst ho
     have e36:a.tmps[36]?.getD undef=.string y.kind:=(RY.af a 36).trans (hd 1 _ 36 rfl rfl ⟨⟨1,.data⟩,by simp,rfl,rfl⟩ (by decide) (by decide));refine Or.inr ⟨23,#[.string y.kind],by simp[go_sem,e36],(cB y.kind X).mono ?_⟩;rintro e W' ⟨v,F,rfl,hr,nd,fr,hb⟩;exact⟨_,rfl,hb,v,F,rfl,hr,fun b hb e=>by have:=fr b hb;have:=Lw b e;omega⟩
    |3,ho=>
     injection ho with ho;subst ho
     have e5:a.tmps[5]?.getD undef=.pointer (some ⟨pb,0,none⟩):=(RY.af a 5).trans ((hk 5 (by kernel_rfl)).trans rfl);exact Or.inl ⟨.pointer (some ⟨pb,0,none⟩),X,by simp[execOp,go_sem,e5],zR,rfl⟩
    |4,ho=>
     injection ho with ho;subst ho
     have e38:a.tmps[38]?.getD undef=.pointer (some ⟨pb,0,none⟩):=(RY.af a 38).trans (hd 3 _ 38 rfl rfl ⟨⟨3,.data⟩,by simp,rfl,rfl⟩ (by decide) (by decide));have yc:=zpb.get 0 _ rfl;exact Or.inl ⟨.string y.kind,X,by simp[execOp,go_sem,e38,yc],zR,rfl⟩
    |5,ho=>
     injection ho with ho;subst ho
     have e5:a.tmps[5]?.getD undef=.pointer (some ⟨pb,0,none⟩):=(RY.af a 5).trans ((hk 5 (by kernel_rfl)).trans rfl);exact Or.inl ⟨.pointer (some ⟨pb,2,none⟩),X,by simp[execOp,go_sem,e5],zR,rfl⟩
    |6,ho=>
     injection ho with ho;subst ho
     have e40:a.tmps[40]?.getD undef=.pointer (some ⟨pb,2,none⟩):=(RY.af a 40).trans (hd 5 _ 40 rfl rfl ⟨⟨5,.data⟩,by simp,rfl,rfl⟩ (by decide) (by decide));have yc:=zpb.get 2 _ rfl;exact Or.inl ⟨.slice (some ⟨p2,o2,none⟩) y.lines.length lc,X,by simp[execOp,go_sem,e40,yc],zR,rfl⟩
    |7,ho=>
     injection ho with ho;subst ho
     have e7:a.tmps[7]?.getD undef=.int .i64 (k:Int):=(RY.af a 7).trans ((hk 7 (by kernel_rfl)).trans rfl);exact Or.inl ⟨.int .i64 (k:Int),X,by simp[execOp,go_sem,e7],zR,rfl⟩
    |8,ho=>
     injection ho with ho;subst ho
     have e41:a.tmps[41]?.getD undef=.slice (some ⟨p2,o2,none⟩) y.lines.length lc:=(RY.af a 41).trans (hd 6 _ 41 rfl rfl ⟨⟨6,.data⟩,by simp,rfl,rfl⟩ (by decide) (by decide));have e42:a.tmps[42]?.getD undef=.int .i64 (k:Int):=(RY.af a 42).trans (hd 7 _ 42 rfl rfl ⟨⟨7,.data⟩,by simp,rfl,rfl⟩ (by decide) (by decide));exact Or.inl ⟨.pointer (some ⟨p2,o2+k*2,none⟩),X,by simp[execOp,go_sem,e41,e42,dd,de],zR,rfl⟩
    |9,ho=>
     injection ho with ho;subst ho
     have e43:a.tmps[43]?.getD undef=.pointer (some ⟨p2,o2+k*2,none⟩):=(RY.af a 43).trans (hd 8 _ 43 rfl rfl ⟨⟨8,.data⟩,by simp,rfl,rfl⟩ (by decide) (by decide));exact Or.inl ⟨.pointer (some ⟨p2,o2+k*2,none⟩),X,by simp[execOp,go_sem,e43],zR,rfl⟩
    |10,ho=>
     injection ho with ho;subst ho
     have e44:a.tmps[44]?.getD undef=.pointer (some ⟨p2,o2+k*2,none⟩):=(RY.af a 44).trans (hd 9 _ 44 rfl rfl ⟨⟨9,.data⟩,by simp,rfl,rfl⟩ (by decide) (by decide));have yp:=zL ka.out hX.size;have yc:X.cell? ⟨p2,o2+k*2,none⟩=some (.string x.key):=by have q:=aF (aA eB.out ka.out hX) 0 _ rfl;simpa using q
     exact Or.inl ⟨.string x.key,X,by simp[execOp,go_sem,e44,yc],zR,rfl⟩
    |11,ho=>
     injection ho with ho;subst ho
     have e39:a.tmps[39]?.getD undef=.string y.kind:=(RY.af a 39).trans (hd 4 _ 39 rfl rfl ⟨⟨4,.data⟩,by simp,rfl,rfl⟩ (by decide) (by decide));have e45:a.tmps[45]?.getD undef=.string x.key:=(RY.af a 45).trans (hd 10 _ 45 rfl rfl ⟨⟨10,.data⟩,by simp,rfl,rfl⟩ (by decide) (by decide));refine Or.inr ⟨26,#[.string y.kind,.string x.key],by simp[go_sem,e39,e45],(Lu.out X).mono ?_⟩;rintro e W' ⟨rfl,hb⟩;exact⟨_,rfl,hb,rfl⟩
    |12,ho=>
     injection ho with ho;subst ho
     obtain⟨v37,F37,q37,Mk,MS⟩:=hd 2 _ 37 rfl rfl ⟨⟨2,.data⟩,by simp,rfl,rfl⟩ (by decide) (by decide);have e37:a.tmps[37]?.getD undef=v37:=(RY.af a 37).trans q37;have e46:a.tmps[46]?.getD undef=.int .i64 (j:Int):=(RY.af a 46).trans (hd 11 _ 46 rfl rfl ⟨⟨11,.data⟩,by simp,rfl,rfl⟩ (by decide) (by decide));obtain⟨rp,ro,rc,a1,c1,a3,c3,F3,hv,hp,hg,kf,Mj⟩:=zi Mk MS Bb;rw[hv]at e37;rw[ez.out]at hg kf;exact Or.inl ⟨.pointer (some ⟨rp,ro+j*4,none⟩),X,by simp[execOp,go_sem,e37,e46,th,mR],zR,rp,ro,rfl,hp,a1,c1,a3,c3,F3,hg,kf,Mj⟩
    |13,ho=>
     injection ho with ho;subst ho
     obtain⟨rp,ro,q47,hp47,a1,c1,a3,c3,F47,LK,Md,LD⟩:=hd 12 _ 47 rfl rfl ⟨⟨12,.data⟩,by simp,rfl,rfl⟩ (by decide) (by decide);have e47:a.tmps[47]?.getD undef=.pointer (some ⟨rp,ro+j*4,none⟩):=(RY.af a 47).trans q47;exact Or.inl ⟨_,X,aq 40 _ rfl rp (ro+j*4) q47 [.string r.key,.slice a1 r.args.length c1,.bool r.many,.slice a3 r.dflt.length c3] _ LK Try.underlying40 rfl (by kernel_rfl),zR,a1,c1,a3,c3,F47,rfl,Md,LD⟩
    |14,ho=>
     exact absurd rfl Jk
    |n+15,ho=>omega
   ·intro a X vals q hX hk hqv hq hU hV hd;obtain⟨a1,c1,a3,c3,F,e1,kf,Mj⟩:=hV 13 (by decide) (by decide);have t48:a.eval (.tmp 48)=_:=(hd 13 _ 48 rfl rfl ⟨⟨13,.data⟩,by simp,rfl,rfl⟩ (by decide)).trans e1;have t8:a.eval (.tmp 8)=_:=(hd 14 _ 8 rfl rfl ⟨⟨14,.data⟩,by simp,rfl,rfl⟩ (by decide)).trans hqv;have bG:X.there q 0 4:=aR hU _ _ (by simp);refine⟨X.setCells q 0 [.string r.key,.slice a1 r.args.length c1,.bool r.many,.slice a3 r.dflt.length c3],RY.cn _ _ _ rfl t8 t48 bG (by kernel_rfl) (by simp[Value.oneCell']),q,a1,c1,a3,c3,hqv,cG hq _ _ _ hX,⟨dE _ _ _ hU,World.rangeAt_setCells_same _ _ _ _ bG⟩, ?_⟩;exact(kf.aY (aN (S:=fun b=>b=q) rfl _ _ _) fun b hb e=>Mj b hb (by rw[e])).raw
   ·intro vals vs X hK bd;simp only[RY.aE,Act.put,List.setIfInBounds_toArray,List.set_cons_zero,List.set_cons_succ];have q8:=bd 14 _ 8 rfl rfl;generalize vs 35=k6;generalize vs 36=k9;generalize vs 37=lj;generalize vs 38=lY;generalize vs 39=mu;generalize vs 40=s40;generalize vs 41=s41;generalize vs 42=s42;generalize vs 43=s43;generalize vs 44=s44;generalize vs 45=s45;generalize vs 46=s46;generalize vs 47=s47;generalize vs 48=s48;clear bd;obtain⟨q,a1,c1,a3,c3,e8,Ck,hQ,MG⟩:=hK;rw[q8,e8];clear q8 e8;obtain⟨W1,gq⟩:∃ W1,W1=X:=⟨_,rfl⟩
    rw[← gq]at Ck hQ MG ⊢;clear gq;have HQ:=uh hQ;have MA:=uh MG;replace dV:=uh (ai dV.out Ck)
    replace uH:=uh (uH.out.ae Ck)
    replace td:=uh (td.out.ae Ck)
    replace eB:=uh (aA eB.out ka.out Ck)
    replace ka:=uh (zL ka.out Ck.size)
    clear hQ MG Ck;have BV:=uh (fun (X:World) (hX:Bel W1 X)=>po r.dflt x.ws (.slice a3 r.dflt.length c3) (.slice aw x.ws.length cw) X (MA.out.ae hX) ((jB.out.ae dV.out).ae hX));cases ld:r.many
    ·rw[ld]at HQ Jy;go_upto_region 13 with fail
     refine RY.aH W1 zR (VTc pb q p2 o2 lc k y x r a3 aw c3 cw) (AI _ _ _ _ _ _ _ _ _ _ _ _ _) (by kernel_rfl) (by kernel_rfl) (by kernel_rfl) (by kernel_rfl) ?_ ?_
     ·intro ii o' ho a X hX hk hd;have zpb:=td.out.ae hX;have zpbl:=zpb.lt;have zq:=HQ.out.ae hX;have zql:=zq.own.lt;match ii,ho with
      |0,ho=>
       injection ho with ho;subst ho
       have e8:a.tmps[8]?.getD undef=.pointer (some ⟨q,0,none⟩):=(RY.af a 8).trans ((hk 8 (by kernel_rfl)).trans rfl);exact Or.inl ⟨RY.al rfl,Or.inl ⟨.pointer (some ⟨q,2,none⟩),X,by simp[execOp,go_sem,e8],zR,rfl⟩⟩
      |1,ho=>
       injection ho with ho;subst ho
       have e49:a.tmps[49]?.getD undef=.pointer (some ⟨q,2,none⟩):=(RY.af a 49).trans (hd 0 _ 49 rfl rfl ⟨⟨0,.data⟩,by simp,rfl,rfl⟩);have yc:=zq.get 2 _ rfl;exact Or.inl ⟨RY.al rfl,Or.inl ⟨.bool false,X,by simp[execOp,go_sem,e49,yc],zR,rfl⟩⟩
      |2,ho=>
       injection ho with ho;subst ho
       have e50:a.tmps[50]?.getD undef=.bool false:=(RY.af a 50).trans (hd 1 _ 50 rfl rfl ⟨⟨1,.data⟩,by simp,rfl,rfl⟩);exact Or.inl ⟨RY.al rfl,Or.inl ⟨.bool false,X,by simp[execOp,go_sem,e50],zR,rfl⟩⟩
      |3,ho=>
       injection ho with ho;subst ho
       have gd:=hd 2 _ 51 rfl rfl ⟨⟨2,.guard⟩,by simp,rfl,rfl⟩;have e8:a.tmps[8]?.getD undef=.pointer (some ⟨q,0,none⟩):=(RY.af a 8).trans ((hk 8 (by kernel_rfl)).trans rfl);exact Or.inl ⟨(RY.ak rfl rfl rfl gd).trans rfl,Or.inl ⟨.pointer (some ⟨q,3,none⟩),X,by simp[execOp,go_sem,e8],zR,rfl⟩⟩
      |4,ho=>
       injection ho with ho;subst ho
       have gd:=hd 2 _ 51 rfl rfl ⟨⟨2,.guard⟩,by simp,rfl,rfl⟩;have e52:a.tmps[52]?.getD undef=.pointer (some ⟨q,3,none⟩):=(RY.af a 52).trans (hd 3 _ 52 rfl rfl ⟨⟨3,.data⟩,by simp,rfl,rfl⟩);have yc:=zq.get 3 _ rfl;exact Or.inl ⟨(RY.ak rfl rfl rfl gd).trans rfl,Or.inl ⟨.slice a3 r.dflt.length c3,X,by simp[execOp,go_sem,e52,yc],zR,rfl⟩⟩
      |5,ho=>
       injection ho with ho;subst ho
       have gd:=hd 2 _ 51 rfl rfl ⟨⟨2,.guard⟩,by simp,rfl,rfl⟩;have e5:a.tmps[5]?.getD undef=.pointer (some ⟨pb,0,none⟩):=(RY.af a 5).trans ((hk 5 (by kernel_rfl)).trans rfl);exact Or.inl ⟨(RY.ak rfl rfl rfl gd).trans rfl,Or.inl ⟨.pointer (some ⟨pb,2,none⟩),X,by simp[execOp,go_sem,e5],zR,rfl⟩⟩
      |6,ho=>
       injection ho with ho;subst ho
       have gd:=hd 2 _ 51 rfl rfl ⟨⟨2,.guard⟩,by simp,rfl,rfl⟩;have e54:a.tmps[54]?.getD undef=.pointer (some ⟨pb,2,none⟩):=(RY.af a 54).trans (hd 5 _ 54 rfl rfl ⟨⟨5,.data⟩,by simp,rfl,rfl⟩);have yc:=zpb.get 2 _ rfl;exact Or.inl ⟨(RY.ak rfl rfl rfl gd).trans rfl,Or.inl ⟨.slice (some ⟨p2,o2,none⟩) y.lines.length lc,X,by simp[execOp,go_sem,e54,yc],zR,rfl⟩⟩
      |7,ho=>
       injection ho with ho;subst ho
       have gd:=hd 2 _ 51 rfl rfl ⟨⟨2,.guard⟩,by simp,rfl,rfl⟩;have e7:a.tmps[7]?.getD undef=.int .i64 (k:Int):=(RY.af a 7).trans ((hk 7 (by kernel_rfl)).trans rfl);exact Or.inl ⟨(RY.ak rfl rfl rfl gd).trans rfl,Or.inl ⟨.int .i64 (k:Int),X,by simp[execOp,go_sem,e7],zR,rfl⟩⟩
      |8,ho=>
       injection ho with ho;subst ho
       have gd:=hd 2 _ 51 rfl rfl ⟨⟨2,.guard⟩,by simp,rfl,rfl⟩;have e55:a.tmps[55]?.getD undef=.slice (some ⟨p2,o2,none⟩) y.lines.length lc:=(RY.af a 55).trans (hd 6 _ 55 rfl rfl ⟨⟨6,.data⟩,by simp,rfl,rfl⟩);have e56:a.tmps[56]?.getD undef=.int .i64 (k:Int):=(RY.af a 56).trans (hd 7 _ 56 rfl rfl ⟨⟨7,.data⟩,by simp,rfl,rfl⟩);exact Or.inl ⟨(RY.ak rfl rfl rfl gd).trans rfl,Or.inl ⟨.pointer (some ⟨p2,o2+k*2,none⟩),X,by simp[execOp,go_sem,e55,e56,dd,de],zR,rfl⟩⟩
      |9,ho=>
       injection ho with ho;subst ho
       have gd:=hd 2 _ 51 rfl rfl ⟨⟨2,.guard⟩,by simp,rfl,rfl⟩;have e57:a.tmps[57]?.getD undef=.pointer (some ⟨p2,o2+k*2,none⟩):=(RY.af a 57).trans (hd 8 _ 57 rfl rfl ⟨⟨8,.data⟩,by simp,rfl,rfl⟩);exact Or.inl ⟨(RY.ak rfl rfl rfl gd).trans rfl,Or.inl ⟨.pointer (some ⟨p2,o2+k*2+1,none⟩),X,by simp[execOp,go_sem,e57],zR,rfl⟩⟩
      |10,ho=>
       injection ho with ho;subst ho
       have gd:=hd 2 _ 51 rfl rfl ⟨⟨2,.guard⟩,by simp,rfl,rfl⟩;have e58:a.tmps[58]?.getD undef=.pointer (some ⟨p2,o2+k*2+1,none⟩):=(RY.af a 58).trans (hd 9 _ 58 rfl rfl ⟨⟨9,.data⟩,by simp,rfl,rfl⟩);have yp:=zL ka.out hX.size;have yc:X.cell? ⟨p2,o2+k*2+1,none⟩=some (.slice aw x.ws.length cw):=by have q:=aF (aA eB.out ka.out hX) 1 _ rfl;simpa using q
       exact Or.inl ⟨(RY.ak rfl rfl rfl gd).trans rfl,Or.inl ⟨.slice aw x.ws.length cw,X,by simp[execOp,go_sem,e58,yc],zR,rfl⟩⟩
      |11,ho=>
       injection ho with ho;subst ho
       have gd:=hd 2 _ 51 rfl rfl ⟨⟨2,.guard⟩,by simp,rfl,rfl⟩;have e53:a.tmps[53]?.getD undef=.slice a3 r.dflt.length c3:=(RY.af a 53).trans (hd 4 _ 53 rfl rfl ⟨⟨4,.data⟩,by simp,rfl,rfl⟩);have e59:a.tmps[59]?.getD undef=.slice aw x.ws.length cw:=(RY.af a 59).trans (hd 10 _ 59 rfl rfl ⟨⟨10,.data⟩,by simp,rfl,rfl⟩);refine Or.inl ⟨(RY.ak rfl rfl rfl gd).trans rfl,Or.inr ⟨27,#[.slice a3 r.dflt.length c3,.slice aw x.ws.length cw],by simp[go_sem,e53,e59],(BV.out X hX).mono ?_⟩⟩;rintro e W' ⟨rfl,hb⟩;exact⟨_,rfl,hb,rfl⟩
      |12,ho=>
       injection ho with ho;subst ho
       have gd:=hd 2 _ 51 rfl rfl ⟨⟨2,.guard⟩,by simp,rfl,rfl⟩;have e60:a.tmps[60]?.getD undef=.bool (Pl.bO r.dflt x.ws):=(RY.af a 60).trans (hd 11 _ 60 rfl rfl ⟨⟨11,.data⟩,by simp,rfl,rfl⟩);exact Or.inl ⟨(RY.ak rfl rfl rfl gd).trans rfl,Or.inl ⟨.bool (!Pl.bO r.dflt x.ws),X,by simp[execOp,go_sem,e60],zR,rfl⟩⟩
      |13,ho=>
       injection ho with ho;subst ho
       have e51:a.tmps[51]?.getD undef=.bool false:=(RY.af a 51).trans (hd 2 _ 51 rfl rfl ⟨⟨2,.data⟩,by simp,rfl,rfl⟩);have e61:a.tmps[61]?.getD undef=.bool (!Pl.bO r.dflt x.ws):=(RY.af a 61).trans (hd 12 _ 61 rfl rfl ⟨⟨12,.data⟩,by simp,rfl,rfl⟩);exact Or.inl ⟨RY.al rfl,Or.inl ⟨.bool (!Pl.bO r.dflt x.ws),X,by simp[execOp,go_sem,e51,e61],zR,rfl⟩⟩
      |n+14,ho=>simp at ho
     intro X vs hX bd;have q62:vs 62=_:=bd 13 _ 62 rfl rfl;simp only[RY.aE,Act.put,List.setIfInBounds_toArray,List.set_cons_zero,List.set_cons_succ];rw[q62];generalize vs 49=s49;generalize vs 50=qG;generalize vs 51=s51;generalize vs 52=s52;generalize vs 53=s53;generalize vs 54=s54;generalize vs 55=s55;generalize vs 56=s56;generalize vs 57=s57;generalize vs 58=s58;generalize vs 59=s59;generalize vs 60=s60;generalize vs 61=s61;clear bd q62;replace dV:=uh (ai dV.out hX)
     replace uH:=uh (uH.out.ae hX)
     replace td:=uh (td.out.ae hX)
     replace eB:=uh (aA eB.out ka.out hX)
     replace ka:=uh (zL ka.out hX.size)
     clear hX BV HQ MA;cases bj:Pl.bO r.dflt x.ws
     rotate_left
     ·have Jt:Hid (Pl.bM y.kind x=false):=by show _=_;rw[Jy.out,bj];rfl
      have HE:Hid ((y.lines.take (k+1)).filter (Pl.bM y.kind)=(y.lines.take k).filter (Pl.bM y.kind)):=by show _=_;rw[jJ.out,Jt.out];rfl
      have AR:=Kk.out.ln;go_wp2;go_roundw
      case rel=>exact⟨k+1,xs,G,by omega,by go_num,by rw[HE.out,← HM.out];exact uH.out,by rw[HE.out,← HM.out];exact yu.out.1,yu.out.2,dV.out⟩
      case measure=>simp[intOf];omega
     have Jt:Hid (Pl.bM y.kind x=true):=by show _=_;rw[Jy.out,bj];rfl
     have HE:Hid ((y.lines.take (k+1)).filter (Pl.bM y.kind)=(y.lines.take k).filter (Pl.bM y.kind)++[x]):=by show _=_;rw[jJ.out,Jt.out];rfl
     have cN:=eB.out;have hpg:=ka.out;have y2:=td.out.get 2 _ rfl;have yl:=td.out.lt;have ec:=HMl.out;have AR:=Kk.out.ln;go_wp2_with first|refine wpList_load_mid rfl 53 _ rfl p2 (o2+k*2) rfl [.string x.key,.slice aw x.ws.length cw] _ cN Try.underlying53 rfl (by kernel_rfl) ?_|(refine kJ (wa:=wb) rfl _ _ rfl (.slice ua m uc) m _ xs rfl (uH.out.ae (ah zR _)) X.heap.size 1 (lnD x) [.string x.key,.slice aw x.ws.length cw] rfl jQ.out.1.raw (World.news_of_block (cs:=#[.string x.key,.slice aw x.ws.length cw]) (heap_alloc_new X _)) (by omega) (Nat.le_trans dV.out.size (by simp)) ?_;intro gg1 KO w1 q1 q2;have B5:=uh (And.intro q1 (uH.out.ae (ah zR _)|>.below (ah dV.out _) q2));clear q1 q2)
     go_roundw
     case rel=>exact⟨k+1,_,G++Gx,by omega,by go_num,by rw[HE.out,List.length_append,← HM.out,List.flatMap_append,List.flatMap_singleton];exact B5.out.1,by rw[HE.out,List.length_append,← HM.out,List.flatMap_append,List.flatMap_singleton];show Rep _ _ (bP (m+1) _) _ _ _;rw[dx];exact yu.out.1.app jQ.out.1,fun b hb=>(List.mem_append.1 hb).elim (yu.out.2 b) (jQ.out.2 b),B5.out.2⟩
     case measure=>simp[intOf];omega
    ·rw[ld]at HQ Jy;go_upto_region 13 with fail
     refine RY.aH W1 zR (VTb q) (yJ _) (by kernel_rfl) (by kernel_rfl) (by kernel_rfl) (by kernel_rfl) ?_ ?_
     ·intro ii o' ho a X hX hk hd;have zpb:=td.out.ae hX;have zpbl:=zpb.lt;have zq:=HQ.out.ae hX;have zql:=zq.own.lt;match ii,ho with
      |0,ho=>
       injection ho with ho;subst ho
       have e8:a.tmps[8]?.getD undef=.pointer (some ⟨q,0,none⟩):=(RY.af a 8).trans ((hk 8 (by kernel_rfl)).trans rfl);exact Or.inl ⟨RY.al rfl,Or.inl ⟨.pointer (some ⟨q,2,none⟩),X,by simp[execOp,go_sem,e8],zR,rfl⟩⟩
      |1,ho=>
       injection ho with ho;subst ho
       have e49:a.tmps[49]?.getD undef=.pointer (some ⟨q,2,none⟩):=(RY.af a 49).trans (hd 0 _ 49 rfl rfl ⟨⟨0,.data⟩,by simp,rfl,rfl⟩);have yc:=zq.get 2 _ rfl;exact Or.inl ⟨RY.al rfl,Or.inl ⟨.bool true,X,by simp[execOp,go_sem,e49,yc],zR,rfl⟩⟩
      |2,ho=>
       injection ho with ho;subst ho
       have e50:a.tmps[50]?.getD undef=.bool true:=(RY.af a 50).trans (hd 1 _ 50 rfl rfl ⟨⟨1,.data⟩,by simp,rfl,rfl⟩);exact Or.inl ⟨RY.al rfl,Or.inl ⟨.bool true,X,by simp[execOp,go_sem,e50],zR,rfl⟩⟩
      |3,ho=>
       injection ho with ho;subst ho
       have gd:=hd 2 _ 51 rfl rfl ⟨⟨2,.guard⟩,by simp,rfl,rfl⟩;exact Or.inr ⟨(RY.ak rfl rfl rfl gd).trans rfl,rfl⟩
      |4,ho=>
       injection ho with ho;subst ho
       have gd:=hd 2 _ 51 rfl rfl ⟨⟨2,.guard⟩,by simp,rfl,rfl⟩;exact Or.inr ⟨(RY.ak rfl rfl rfl gd).trans rfl,rfl⟩
      |5,ho=>
       injection ho with ho;subst ho
       have gd:=hd 2 _ 51 rfl rfl ⟨⟨2,.guard⟩,by simp,rfl,rfl⟩;exact Or.inr ⟨(RY.ak rfl rfl rfl gd).trans rfl,rfl⟩
      |6,ho=>
       injection ho with ho;subst ho
       have gd:=hd 2 _ 51 rfl rfl ⟨⟨2,.guard⟩,by simp,rfl,rfl⟩;exact Or.inr ⟨(RY.ak rfl rfl rfl gd).trans rfl,rfl⟩
      |7,ho=>
       injection ho with ho;subst ho
       have gd:=hd 2 _ 51 rfl rfl ⟨⟨2,.guard⟩,by simp,rfl,rfl⟩;exact Or.inr ⟨(RY.ak rfl rfl rfl gd).trans rfl,rfl⟩
      |8,ho=>
       injection ho with ho;subst ho
       have gd:=hd 2 _ 51 rfl rfl ⟨⟨2,.guard⟩,by simp,rfl,rfl⟩;exact Or.inr ⟨(RY.ak rfl rfl rfl gd).trans rfl,rfl⟩
      |9,ho=>
       injection ho with ho;subst ho
       have gd:=hd 2 _ 51 rfl rfl ⟨⟨2,.guard⟩,by simp,rfl,rfl⟩;exact Or.inr ⟨(RY.ak rfl rfl rfl gd).trans rfl,rfl⟩
      |10,ho=>
       injection ho with ho;subst ho
       have gd:=hd 2 _ 51 rfl rfl ⟨⟨2,.guard⟩,by simp,rfl,rfl⟩;exact Or.inr ⟨(RY.ak rfl rfl rfl gd).trans rfl,rfl⟩
      |11,ho=>
       injection ho with ho;subst ho
       have gd:=hd 2 _ 51 rfl rfl ⟨⟨2,.guard⟩,by simp,rfl,rfl⟩;exact Or.inr ⟨(RY.ak rfl rfl rfl gd).trans rfl,rfl⟩
      |12,ho=>
       injection ho with ho;subst ho
       have gd:=hd 2 _ 51 rfl rfl ⟨⟨2,.guard⟩,by simp,rfl,rfl⟩;exact Or.inr ⟨(RY.ak rfl rfl rfl gd).trans rfl,rfl⟩
      |13,ho=>
       injection ho with ho;subst ho
       have e51:a.tmps[51]?.getD undef=.bool true:=(RY.af a 51).trans (hd 2 _ 51 rfl rfl ⟨⟨2,.data⟩,by simp,rfl,rfl⟩);have e61:a.tmps[61]?.getD undef=undef:=(RY.af a 61).trans (hd 12 _ 61 rfl rfl ⟨⟨12,.data⟩,by simp,rfl,rfl⟩);exact Or.inl ⟨RY.al rfl,Or.inl ⟨.bool true,X,by simp[execOp,go_sem,e51,e61],zR,rfl⟩⟩
      |n+14,ho=>simp at ho
     intro X vs hX bd;have q62:vs 62=_:=bd 13 _ 62 rfl rfl;simp only[RY.aE,Act.put,List.setIfInBounds_toArray,List.set_cons_zero,List.set_cons_succ];rw[q62];generalize vs 49=s49;generalize vs 50=qG;generalize vs 51=s51;generalize vs 52=s52;generalize vs 53=s53;generalize vs 54=s54;generalize vs 55=s55;generalize vs 56=s56;generalize vs 57=s57;generalize vs 58=s58;generalize vs 59=s59;generalize vs 60=s60;generalize vs 61=s61;clear bd q62;replace dV:=uh (ai dV.out hX)
     replace uH:=uh (uH.out.ae hX)
     replace td:=uh (td.out.ae hX)
     replace eB:=uh (aA eB.out ka.out hX)
     replace ka:=uh (zL ka.out hX.size)
     clear hX BV HQ MA;have Jt:Hid (Pl.bM y.kind x=true):=Jy.out;have HE:Hid ((y.lines.take (k+1)).filter (Pl.bM y.kind)=(y.lines.take k).filter (Pl.bM y.kind)++[x]):=by show _=_;rw[jJ.out,Jt.out];rfl
     have cN:=eB.out;have hpg:=ka.out;have y2:=td.out.get 2 _ rfl;have yl:=td.out.lt;have ec:=HMl.out;have AR:=Kk.out.ln;go_wp2_with first|refine wpList_load_mid rfl 53 _ rfl p2 (o2+k*2) rfl [.string x.key,.slice aw x.ws.length cw] _ cN Try.underlying53 rfl (by kernel_rfl) ?_|(refine kJ (wa:=wb) rfl _ _ rfl (.slice ua m uc) m _ xs rfl (uH.out.ae (ah zR _)) X.heap.size 1 (lnD x) [.string x.key,.slice aw x.ws.length cw] rfl jQ.out.1.raw (World.news_of_block (cs:=#[.string x.key,.slice aw x.ws.length cw]) (heap_alloc_new X _)) (by omega) (Nat.le_trans dV.out.size (by simp)) ?_;intro gg1 KO w1 q1 q2;have B5:=uh (And.intro q1 (uH.out.ae (ah zR _)|>.below (ah dV.out _) q2));clear q1 q2)
     go_roundw
     case rel=>exact⟨k+1,_,G++Gx,by omega,by go_num,by rw[HE.out,List.length_append,← HM.out,List.flatMap_append,List.flatMap_singleton];exact B5.out.1,by rw[HE.out,List.length_append,← HM.out,List.flatMap_append,List.flatMap_singleton];show Rep _ _ (bP (m+1) _) _ _ _;rw[dx];exact yu.out.1.app jQ.out.1,fun b hb=>(List.mem_append.1 hb).elim (yu.out.2 b) (jQ.out.2 b),B5.out.2⟩
     case measure=>simp[intOf];omega
end Go.Proofs.Ytmgibmmpopoboaa
