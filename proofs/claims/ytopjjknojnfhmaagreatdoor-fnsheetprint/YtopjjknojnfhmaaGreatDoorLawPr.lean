import Derived.Test.YtopjjknojnfhmaaGreatDoorEIz
import Derived.Test.YtopjjknojnfhmaaGreatDoorEEm
import Derived.Test.YtopjjknojnfhmaaGreatDoorEIx
namespace Go.Proofs.YtopjjknojnfhmaaGreatDoor
open Go.RowKit Go.Deep
theorem al.frL {R:Nat} {W W':World} {p:Nat} {u:TypeId} {cs:List Value} (h:al W p u cs) (hF:Fr R W W') (hl:p<R):al W' p u cs:=by
 have hb:=hF.bel.block p hl;obtain⟨qO,h1,h2⟩:=h.own;exact⟨⟨qO,hb.trans h1,h2⟩,cO h.at_ fun j _=>World.cell?_of_block (a:=⟨p,0+j,none⟩) hb⟩
set_option maxHeartbeats 40000000
set_option maxRecDepth 8000
theorem z9 (hS:sK Tryz.prog 36) (v:Value) (W:World) (h:jw W v):
  Calls Tryz.prog 17 #[v] W fun e W'=>(∃ s sv,e=.returned (.agg #[sv])∧ki W' W.heap.size s sv∧Sw s)∧Bel W W':=by
 have L0:=uh hS;obtain⟨a,n0,c,hv⟩:∃ a n c,v=.slice a n c:=by rcases h with⟨a,c,e⟩|⟨b,off,n,cap,e,_⟩;exact⟨_,_,_,e⟩;exact⟨_,_,_,e⟩
 subst hv;obtain⟨wa,aZ⟩:∃ wa,wa=W.alloc (.cells #[.slice none 0 0] 25):=⟨_,rfl⟩
 have g8:Bel W wa:=by rw[aZ];exact ae zR _
 have EP:al wa W.heap.size 25 [.slice none 0 0]:=by rw[aZ];exact al.new _ _ _ _ rfl
 have Bi:Hid (wa.heap.size=W.heap.size+1):=by show _=_;rw[aZ];simp
 have ib:=uh h;have HO:=uh (uE _ wa (h.later g8));have wF:=uh EP;have jG:=uh g8;clear h hS g8 EP;go_enter Tryz.func17,Tryz.ntmps17
 go_upto_region 1 with fail
 rw[← aZ];clear aZ;go_wp2_with fail
 refine HO.out.mono ?_;rintro e W1 ⟨⟨rv,len,rfl,hR⟩,bJ⟩;obtain⟨R,Mm⟩:∃ R,R=wa.heap.size:=⟨_,rfl⟩
 rw[← Mm]at hR ⊢;have g9:Hid (R=W.heap.size+1):=by show _=_;rw[Mm,Bi.out]
 have wC:=uh (wF.out.later bJ);have gE:=uh (ah jG.out bJ);have HR:=uh hR;clear Mm hR bJ HO wF jG;clear ib;have HA:=uh (Au R rv len 0 W1 HR.out (by omega));go_wp2_with fail
 refine HA.out.mono ?_;rintro e W2 ⟨⟨s,sv,rfl,hs,hsd⟩,oF,q1,yC,mL⟩;obtain⟨sa,sc,zA⟩:=hs.raw.bm;subst zA;obtain⟨w3,gh⟩:∃ w3,w3=W2.alloc (.cells #[.slice sa s.length sc] 25):=⟨_,rfl⟩
 obtain⟨bS,Jc⟩:∃ bS,bS=W2.heap.size:=⟨_,rfl⟩
 have eP:Bel W2 w3:=by rw[gh];exact ae zR _
 have mG:al w3 bS 25 [.slice sa s.length sc]:=by rw[gh,Jc];exact al.new _ _ _ _ rfl
 have eR:=HR.out.own.lt;have hRb:R<bS:=by rw[Jc];have:=oF.bel.size;omega
 have HOX:=uh (hs.later eP);have RI:=uh hsd;have v9:=uh (mL.later eP);have PG:=uh (oF.trans (Fr.aG eP (by have:=oF.bel.size;omega)));have nA:=uh ((wC.out.frL oF (by have:=g9.out;omega)).later eP);have tV:=uh mG;have vW:Hid (R<bS∧R<W1.heap.size):=⟨hRb,eR⟩
 have nB:=uh (bb R rv len q1 2 w3 v9.out (by omega) (by omega));go_upto_region 3 with fail
 rw[← gh,← Jc];clear gh Jc eP mG hRb hs hsd oF mL HA wC eR;go_wp2_with fail
 refine nB.out.mono ?_;rintro e W4 ⟨⟨rm,rfl,iJ⟩,tJ,OA⟩;obtain⟨m,rfl,hm⟩:=iJ.nat;have HO4:=uh (HOX.out.bo (tJ.i4 v9.out OA) (fun b e=>by have:b=R:=e;have:=vW.out;omega));have E0:=uh (nA.out.frL tJ (by have:=g9.out;omega));have JE:=uh (tV.out.fr tJ vW.out.1);have nz:=uh OA;have L9:=uh (PG.out.trans tJ);have FP:=uh yC;clear iJ hm tJ OA nB HOX nA tV v9 PG yC HR;have zx:=JE.out.at_;have zl:=JE.out.own.lt;by_cases m0:m=0
 rotate_left
 ·have d0:((m:Int)==0)=false:=by simp;omega
  have Jm:Hid (Bel W W4):=gE.out.trans (L9.out.bel.mono (by have:=g9.out;omega));go_upto_region 5 with fail
  have cp:W4.there W.heap.size 0 (#[.slice sa s.length sc]:Array Value).size:=aR E0.out.own _ _ (by simp);have oG:=E0.out.own.lt;obtain⟨we,bM⟩:∃ we,we=W4.setCells W.heap.size 0 [.slice sa s.length sc]:=⟨_,rfl⟩
  have fT:we.rangeAt W.heap.size 0 [.slice sa s.length sc]:=by rw[bM];exact World.rangeAt_setCells_same _ _ _ _ cp
  have hm:Marks (fun b=>b=W.heap.size) W4 we:=by rw[bM];exact aM (S:=fun b=>b=W.heap.size) rfl _ _ _
  have Fg:Bel W we:=by rw[bM];exact da zE _ _ _ Jm.out
  have cj:Hid (ki we W.heap.size s (.slice sa s.length sc)∧Bel W we∧Sw s):=⟨(FX (HO4.out.bo hm (fun b e=>by have:b=W.heap.size:=e;have:=g9.out;have:=vW.out;omega)) (by have:=RI.out.len;unfold maxLen;omega)).lower (by have:=g9.out;have:=vW.out;omega),Fg,RI.out.sw⟩
  clear hm Fg;go_wp2_with (first|(refine wpList_store_mid rfl 25 _ _ rfl W.heap.size 0 #[.slice sa s.length sc] rfl rfl cp (by kernel_rfl) (by simp[Value.oneCell']) ?_)|(refine wpList_load_mid rfl 25 _ rfl bS 0 rfl [.slice sa s.length sc] _ zx Tryz.underlying25 rfl (by kernel_rfl) ?_))
  first|rw[← bM]|(simp only[List.toList_toArray];rw[← bM])
  try simp only[Act.put]
  refine bodyPost_ret (v:=.agg #[.slice sa s.length sc]) (by simp[results,Tryz.results17,asAddr,run_loadVar_mid (P:=Tryz.prog) _ _ _ 25 [.slice sa s.length sc] _ fT Tryz.underlying25 rfl (by kernel_rfl)]) rfl ?_;exact⟨⟨s,_,rfl,cj.out.1,cj.out.2.2⟩,cj.out.2.1⟩
 subst m0;have qx:=uh (L0.out R rv len (q1+1) W4 s (.slice sa s.length sc) nz.out (by have:=FP.out;omega) HO4.out.raw RI.out);go_wp2_with (refine wpList_load_mid rfl 25 _ rfl bS 0 rfl [.slice sa s.length sc] _ zx Tryz.underlying25 rfl (by kernel_rfl) ?_)
 refine qx.out.mono ?_;rintro e W5 ⟨⟨s',MX,rfl,ho,hw⟩,FG,q5,_,H7⟩;obtain⟨ta,tc,zA⟩:=ho.len;subst zA;have HO5:=uh ho;have JF:=uh hw;have Jq:=uh (E0.out.frL FG (by have:=g9.out;omega));have Jm:Hid (Bel W W5):=gE.out.trans ((L9.out.trans FG).bel.mono (by have:=g9.out;omega));have ue:Hid (W.heap.size<W4.heap.size):=by have:=L9.out.bel.size;have:=vW.out;have:=g9.out;show _<_;omega
 clear ho hw FG H7 qx zx zl;have cp:W5.there W.heap.size 0 (#[.slice ta s'.length tc]:Array Value).size:=aR Jq.out.own _ _ (by simp);have oG:=Jq.out.own.lt;obtain⟨we,bM⟩:∃ we,we=W5.setCells W.heap.size 0 [.slice ta s'.length tc]:=⟨_,rfl⟩
 have fT:we.rangeAt W.heap.size 0 [.slice ta s'.length tc]:=by rw[bM];exact World.rangeAt_setCells_same _ _ _ _ cp
 have hm:Marks (fun b=>b=W.heap.size) W5 we:=by rw[bM];exact aM (S:=fun b=>b=W.heap.size) rfl _ _ _
 have Fg:Bel W we:=by rw[bM];exact da zE _ _ _ Jm.out
 have cj:Hid (ki we W.heap.size s' (.slice ta s'.length tc)∧Bel W we∧Sw s'):=⟨(HO5.out.bo hm (fun b e=>by have:b=W.heap.size:=e;have:=ue.out;omega)).lower (by have:=ue.out;omega),Fg,JF.out⟩
 clear hm Fg;go_wp2_with (first|(refine wpList_store_mid rfl 25 _ _ rfl W.heap.size 0 #[.slice ta s'.length tc] rfl rfl cp (by kernel_rfl) (by simp[Value.oneCell']) ?_))
 first|rw[← bM]|(simp only[List.toList_toArray];rw[← bM])
 try simp only[Act.put]
 refine bodyPost_ret (v:=.agg #[.slice ta s'.length tc]) (by simp[results,Tryz.results17,asAddr,run_loadVar_mid (P:=Tryz.prog) _ _ _ 25 [.slice ta s'.length tc] _ fT Tryz.underlying25 rfl (by kernel_rfl)]) rfl ?_;exact⟨⟨s',_,rfl,cj.out.1,cj.out.2.2⟩,cj.out.2.1⟩
structure PR (W X:World) (B0 Q L:Nat) (s:List Pl.Bl) (sv:Value):Prop where
 bel:Bel W X
 res:al X B0 25 [.slice none 0 0]
 box:al X Q 25 [sv]
 dat:Dat (fun _=>False) 0 L X bu [bD s] [sv]
 ord:W.heap.size≤B0∧B0<Q∧Q<L∧L≤X.heap.size
theorem PR.later {W X X':World} {B0 Q L:Nat} {s:List Pl.Bl} {sv:Value} (h:PR W X B0 Q L s sv) (hb:Bel X X'):PR W X' B0 Q L s sv:=
 ⟨ah h.bel hb,h.res.later hb,h.box.later hb,h.dat.later hb,by have:=h.ord;have:=hb.size;omega⟩
theorem PR.put {W X:World} {B0 Q L:Nat} {s s':List Pl.Bl} {sv v':Value} (h:PR W X B0 Q L s sv) (hd:Dat (fun _=>False) 0 L X bu [bD s'] [v']):PR W (X.setCells Q 0 [v']) B0 Q L s' v':=by
 have ho:=h.ord;have m:Marks (fun b=>b=Q) X (X.setCells Q 0 [v']):=aM (S:=fun b=>b=Q) rfl _ _ _;have t:X.there Q 0 [v'].length:=aR h.box.own _ _ (by simp);exact⟨da (by omega) _ _ _ h.bel,h.res.mks m (by omega),⟨dB _ _ _ h.box.own,World.rangeAt_setCells_same _ _ _ _ t⟩,hd.bo m (fun b e=>by have:b=Q:=e;omega),by have:=m.size;omega⟩
structure PB (W X:World) (B0 Q L BX:Nat) (s:List Pl.Bl) (sv:Value) (b:Pl.Bl) (bv:Value):Prop where
 bel:Bel W X
 res:al X B0 25 [.slice none 0 0]
 box:al X Q 25 [sv]
 bbx:al X BX 41 [.string b.kind,.string b.name,bv]
 dat:Dat (fun b=>((fun _=>False) b∧b<0)∨L≤b) BX (BX+1) X bu [bD s] [sv]
 lns:Dat (fun _=>False) 0 (BX+1) X bF [bT b.lines] [bv]
 ord:W.heap.size≤B0∧B0<Q∧Q<L∧L≤BX∧BX<X.heap.size
theorem PB.later {W X X':World} {B0 Q L BX:Nat} {s:List Pl.Bl} {sv bv:Value} {b:Pl.Bl} (h:PB W X B0 Q L BX s sv b bv) (hb:Bel X X'):PB W X' B0 Q L BX s sv b bv:=
 ⟨ah h.bel hb,h.res.later hb,h.box.later hb,h.bbx.later hb,h.dat.later hb,h.lns.later hb,by have:=h.ord;have:=hb.size;omega⟩
theorem PB.put {W X:World} {B0 Q L BX:Nat} {s:List Pl.Bl} {sv bv v':Value} {b:Pl.Bl} {ls:List Pl.Ln} (h:PB W X B0 Q L BX s sv b bv) (hd:Dat (fun _=>False) 0 (BX+1) X bF [bT ls] [v']):PB W (X.setCells BX 0 [.string b.kind,.string b.name,v']) B0 Q L BX s sv ⟨b.kind,b.name,ls⟩ v':=by
 have ho:=h.ord;have m:Marks (fun b=>b=BX) X (X.setCells BX 0 [.string b.kind,.string b.name,v']):=aM (S:=fun b=>b=BX) rfl _ _ _;have t:X.there BX 0 [.string b.kind,.string b.name,v'].length:=aR h.bbx.own _ _ (by simp);exact⟨da (by omega) _ _ _ h.bel,h.res.mks m (by omega),h.box.mks m (by omega),⟨dB _ _ _ h.bbx.own,World.rangeAt_setCells_same _ _ _ _ t⟩,h.dat.bo m (fun b e=>by have:b=BX:=e;omega),hd.bo m (fun b e=>by have:b=BX:=e;omega),by have:=m.size;omega⟩
theorem y6 {α:Type} (p:α→Bool) (f:α→Nat) (l:List α) (x:α):((Pl.putAt p l x).map f).sum=(l.map f).sum+f x:=by
 have h:(l.map f).sum=((l.takeWhile p).map f).sum+((l.dropWhile p).map f).sum:=by
  rw[← List.sum_append,← List.map_append,List.takeWhile_append_dropWhile]
 rw[h];simp only[Pl.putAt,List.map_append,List.map_cons,List.sum_append,List.sum_cons];omega
theorem GD {X:World} {lo:Nat} (x y:ByteArray) (hl:lo≤X.heap.size):Dat (fun _=>False) 0 lo (X.alloc (.cells #[.string x,.string y] 9)) bB [.row 2 (txD [x,y])] [.slice (some ⟨X.heap.size,0,none⟩) 2 2]:=by
 have hw:=al.new X [.string x,.string y] 9 X.heap.size rfl;exact⟨[X.heap.size],Rep.row _ [.s] X.heap.size 0 2 2 9 2 [.string x,.string y] [.s x,.s y] [] hw.own (by simp) (by simp) ⟨by decide,by omega⟩ hw.at_ (.s x (.s y .nil)) .nil,fun b hb=>by rw[List.mem_singleton]at hb;subst hb;exact Or.inr hl⟩
theorem JS {k:Nat} {b:Pl.Bl} {x:ByteArray} (hx:x.size≤200) (h:(b.lines.map fun y=>Pl.wln y+1).sum≤k*230):((Pl.ck b.kind b.lines (⟨{data:=#[108,105,107,101]},[x,{data:=#[49]}]⟩:Pl.Ln)).map fun y=>Pl.wln y+1).sum≤(k+1)*230:=by
 unfold Pl.ck;rw[y6];have e:Pl.wln (⟨{data:=#[108,105,107,101]},[x,{data:=#[49]}]⟩:Pl.Ln)=4+((x.size+1)+((1+1)+0)):=rfl;rw[e];omega
def DI (BX:Nat) (k:Nat) (b:Pl.Bl) (ba:Option Addr) (bc:Nat):Nat→Value→World→Prop
 |0,vv,_=>vv=.agg #[.string b.kind,.string b.name,.slice ba b.lines.length bc]
 |1,vv,_=>vv=.int .i64 (k:Int)
 |2,vv,_=>vv=.int .i64 ((200 - k:Nat):Int)
 |3,vv,_=>∃ x:ByteArray,vv=.string x∧x.size≤200
 |4,vv,W=>∃ (c:Nat) (x:ByteArray),vv=.slice (some ⟨c,0,none⟩) 2 2∧x.size≤200∧Dat (fun _=>False) 0 (BX+1) W bB [.row 2 (txD [x,{data:=#[49]}])] [.slice (some ⟨c,0,none⟩) 2 2]
 |5,vv,W=>∃ (c:Nat) (x:ByteArray),vv=.agg #[.string {data:=#[108,105,107,101]},.slice (some ⟨c,0,none⟩) 2 2]∧x.size≤200∧Dat (fun _=>False) 0 (BX+1) W bB [.row 2 (txD [x,{data:=#[49]}])] [.slice (some ⟨c,0,none⟩) 2 2]
 |6,vv,W=>∃ (x:ByteArray) (a:Option Addr) (m:Nat),vv=.agg #[.string b.kind,.string b.name,.slice a (b.lines.length+1) m]∧x.size≤200∧Dat (fun _=>False) 0 (BX+1) W bF [bT (Pl.ck b.kind b.lines (⟨{data:=#[108,105,107,101]},[x,{data:=#[49]}]⟩:Pl.Ln))] [.slice a (b.lines.length+1) m]
 |_,_,_=>True
theorem xi (BX:Nat) (k:Nat) (b:Pl.Bl) (ba:Option Addr) (bc:Nat):∀ jj vv W W',Bel W W'→DI BX k b ba bc jj vv W→DI BX k b ba bc jj vv W':=by
 intro jj vv W W' hb h;match jj with
 |0=>exact h
 |1=>exact h
 |2=>exact h
 |3=>
  exact h
 |4=>
  obtain⟨c,x,e,h1,h2⟩:=h;exact⟨c,x,e,h1,h2.later hb⟩
 |5=>
  obtain⟨c,x,e,h1,h2⟩:=h;exact⟨c,x,e,h1,h2.later hb⟩
 |6=>
  obtain⟨x,a,m,e,h1,h2⟩:=h;exact⟨x,a,m,e,h1,h2.later hb⟩
 |n+7=>exact trivial
theorem AZ (hS:sK Tryz.prog 36) (v:Value) (W:World) (h:jw W v):
  Calls Tryz.prog 4 #[v] W fun e W'=>(∃ s sv,e=.returned (.agg #[sv])∧Raw W' bu [bD s] [sv]∧Sw s)∧Bel W W':=by
 have L0:=uh hS;obtain⟨a,n0,c,hv⟩:∃ a n c,v=.slice a n c:=by rcases h with⟨a,c,e⟩|⟨b,off,n,cap,e,_⟩;exact⟨_,_,_,e⟩;exact⟨_,_,_,e⟩
 subst hv;obtain⟨wa,aZ⟩:∃ wa,wa=W.alloc (.cells #[.slice none 0 0] 25):=⟨_,rfl⟩
 have g8:Bel W wa:=by rw[aZ];exact ae zR _
 have EP:al wa W.heap.size 25 [.slice none 0 0]:=by rw[aZ];exact al.new _ _ _ _ rfl
 have Bi:Hid (wa.heap.size=W.heap.size+1):=by show _=_;rw[aZ];simp
 have ib:=uh h;have HO:=uh (uE _ wa (h.later g8));have wF:=uh EP;have jG:=uh g8;clear h hS g8 EP;go_enter Tryz.func4,Tryz.ntmps4
 go_upto_region 1 with fail
 rw[← aZ];clear aZ;go_wp2_with fail
 refine HO.out.mono ?_;rintro e W1 ⟨⟨rv,len,rfl,hR⟩,bJ⟩;obtain⟨R,Mm⟩:∃ R,R=wa.heap.size:=⟨_,rfl⟩
 rw[← Mm]at hR ⊢;have g9:Hid (R=W.heap.size+1):=by show _=_;rw[Mm,Bi.out]
 have wC:=uh (wF.out.later bJ);have gE:=uh (ah jG.out bJ);have HR:=uh hR;clear Mm hR bJ HO wF jG;have nB:=uh (bb R rv len 0 20 W1 HR.out (by omega) (by omega));go_wp2_with fail
 refine nB.out.mono ?_;rintro e W2 ⟨⟨rm,rfl,iJ⟩,fk,eR⟩;obtain⟨m,rfl,hm⟩:=iJ.nat;have zw:=uh (wC.out.frL fk (by have:=g9.out;omega));have lK:=uh (gE.out.trans (fk.bel.mono (by have:=g9.out;omega)));have gW:=uh eR;have Pd:Hid (W.heap.size<W2.heap.size):=by have:=eR.own.lt;have:=g9.out;show _<_;omega
 clear iJ hm fk eR nB wC HR gE;by_cases m0:m=0
 rotate_left
 ·have d0:((m:Int)==0)=false:=by simp;omega
  have HV:=uh (z9 L0.out (.slice a n0 c) W2 (ib.out.later lK.out));go_wp2_with fail
  refine HV.out.mono ?_;rintro e W3 ⟨⟨s,sv,rfl,hr,hw⟩,eP⟩;obtain⟨sa,sc,zA⟩:=hr.len;subst zA;have Sa:=uh hr;have JF:=uh hw;have nA:=uh (zw.out.later eP);have Jm:=uh (ah lK.out eP);clear hr hw eP HV zw lK;have zy:Hid (W.heap.size<W2.heap.size):=Pd.out;have cp:W3.there W.heap.size 0 (#[.slice sa s.length sc]:Array Value).size:=aR nA.out.own _ _ (by simp);have oG:=nA.out.own.lt;obtain⟨we,bM⟩:∃ we,we=W3.setCells W.heap.size 0 [.slice sa s.length sc]:=⟨_,rfl⟩
  have fT:we.rangeAt W.heap.size 0 [.slice sa s.length sc]:=by rw[bM];exact World.rangeAt_setCells_same _ _ _ _ cp
  have hm:Marks (fun b=>b=W.heap.size) W3 we:=by rw[bM];exact aM (S:=fun b=>b=W.heap.size) rfl _ _ _
  have Fg:Bel W we:=by rw[bM];exact da zE _ _ _ Jm.out
  have cj:Hid (Raw we bu [bD s] [.slice sa s.length sc]∧Bel W we∧Sw s):=⟨(Sa.out.bo hm (fun b e=>by have:b=W.heap.size:=e;have:=zy.out;omega)).raw,Fg,JF.out⟩
  clear hm Fg;go_wp2_with (first|(refine wpList_store_mid rfl 25 _ _ rfl W.heap.size 0 #[.slice sa s.length sc] rfl rfl cp (by kernel_rfl) (by simp[Value.oneCell']) ?_))
  first|rw[← bM]|(simp only[List.toList_toArray];rw[← bM])
  try simp only[Act.put]
  refine bodyPost_ret (v:=.agg #[.slice sa s.length sc]) (by simp[results,Tryz.results4,asAddr,run_loadVar_mid (P:=Tryz.prog) _ _ _ 25 [.slice sa s.length sc] _ fT Tryz.underlying25 rfl (by kernel_rfl)]) rfl ?_;exact⟨⟨s,_,rfl,cj.out.1,cj.out.2.2⟩,cj.out.2.1⟩
 subst m0;obtain⟨w3,gh⟩:∃ w3,w3=W2.alloc (.cells #[.slice none 0 0] 25):=⟨_,rfl⟩
 obtain⟨Q,hQ⟩:∃ Q,Q=W2.heap.size:=⟨_,rfl⟩
 have eP:Bel W2 w3:=by rw[gh];exact ae zR _
 have mG:al w3 Q 25 [.slice none 0 0]:=by rw[gh,hQ];exact al.new _ _ _ _ rfl
 have Br:w3.heap.size=Q+1:=by rw[gh,hQ];simp
 have HRQ:Hid (R<Q):=by show R<Q;rw[hQ];exact gW.out.own.lt
 have tV:=uh mG;have Lh:=uh Br;have v9:=uh (gW.out.later eP);have nA:=uh (zw.out.later eP);have tA:=uh (ah lK.out eP);have nB:=uh (bb R rv len (0+1) 12 w3 v9.out (by omega) (by omega));go_upto_region 4 with fail
 rw[← gh,← hQ];clear gh hQ eP mG Br zw gW lK Pd;go_wp2_with fail
 refine nB.out.mono ?_;rintro e W4 ⟨⟨rm,rfl,iJ⟩,tJ,OA⟩;obtain⟨n,rfl,hn⟩:=iJ.nat;have O7:n<12:=by have:=hn (by omega);omega
 obtain⟨L,hL⟩:∃ L,L=Q+1:=⟨_,rfl⟩
 obtain⟨n1,jn⟩:∃ n1,n1=1+n:=⟨_,rfl⟩
 have QW:IntKind.i64.wrap (1+(n:Int))=(n1:Int):=by rw[wrap_small _ (by omega) (by omega)];omega
 have MK:Hid (n1≤12):=by show n1≤12;omega
 have B4:Hid (PR W W4 W.heap.size Q L [] (.slice none 0 0)):=by
  have h1:=g9.out;have h2:=HRQ.out;have h3:=tJ.bel.size;have h4:=Lh.out;exact⟨tA.out.trans (tJ.bel.mono (by omega)),nA.out.frL tJ (by omega),tV.out.fr tJ h2,k9,by omega⟩
 clear iJ hn tJ OA nB nA tV v9 tA hL jn O7 Lh HRQ;go_upto_region 5 with fail
 clear QW;go_wp2;go_loopw [6] (fun vi wr=>∃ (i:Nat) (s:List Pl.Bl) (sv:Value),i≤n1∧vi=.int .i64 (i:Int)∧PR W wr W.heap.size Q L s sv∧s.length≤i∧Pl.wsh s≤i*2400) (fun vi _=>n1 - (intOf vi).toNat)
 case atStart=>exact⟨0,[],_,by omega,rfl,B4.out,zE,by simp[Pl.wsh]⟩
 case round=>
  obtain⟨i,s,sv,gG,rfl,hp,FK,E3⟩:=hrel;obtain⟨sa,sc,zA⟩:=hp.dat.raw.bm;subst zA;have r7:=uh hp;have qx:=uh FK;have JF:=uh E3;have O7:=MK.out;clear hp FK E3 B4;by_cases bd:i<n1
  rotate_left
  ·have Po:¬ ((i:Int)<(n1:Int)):=by omega
   have HSw:Hid (Sw s):=⟨by have:=qx.out;omega,by have:=JF.out;have h6:i*2400≤12*2400:=Nat.mul_le_mul_right _ (by omega);omega⟩
   have zx:=r7.out.box.at_;have zl:=r7.out.box.own.lt;have cp:wr.there W.heap.size 0 (#[.slice sa s.length sc]:Array Value).size:=aR r7.out.res.own _ _ (by simp);have oG:=r7.out.res.own.lt;obtain⟨we,bM⟩:∃ we,we=wr.setCells W.heap.size 0 [.slice sa s.length sc]:=⟨_,rfl⟩
   have fT:we.rangeAt W.heap.size 0 [.slice sa s.length sc]:=by rw[bM];exact World.rangeAt_setCells_same _ _ _ _ cp
   have hm:Marks (fun b=>b=W.heap.size) wr we:=by rw[bM];exact aM (S:=fun b=>b=W.heap.size) rfl _ _ _
   have Fg:Bel W we:=by rw[bM];exact da zE _ _ _ r7.out.bel
   have cj:Hid (Raw we bu [bD s] [.slice sa s.length sc]∧Bel W we∧Sw s):=⟨(r7.out.dat.bo hm (fun b e=>by have:b=W.heap.size:=e;have:=r7.out.ord;omega)).raw,Fg,HSw.out⟩
   clear hm Fg;go_wp2_with (first|(refine wpList_store_mid rfl 25 _ _ rfl W.heap.size 0 #[.slice sa s.length sc] rfl rfl cp (by kernel_rfl) (by simp[Value.oneCell']) ?_)|(refine wpList_load_mid rfl 25 _ rfl Q 0 rfl [.slice sa s.length sc] _ zx Tryz.underlying25 rfl (by kernel_rfl) ?_))
   first|rw[← bM]|(simp only[List.toList_toArray];rw[← bM])
   try simp only[Act.put]
   refine bodyPost_ret (v:=.agg #[.slice sa s.length sc]) (by simp[results,Tryz.results4,asAddr,run_loadVar_mid (P:=Tryz.prog) _ _ _ 25 [.slice sa s.length sc] _ fT Tryz.underlying25 rfl (by kernel_rfl)]) rfl ?_;exact⟨⟨s,_,rfl,cj.out.1,cj.out.2.2⟩,cj.out.2.1⟩
  have E2:((i:Int)<(n1:Int)):=by omega
  obtain⟨dl,kU⟩:∃ dl:ByteArray,dl=⟨(Lib.decDigits i).toArray⟩:=⟨_,rfl⟩
  have N5:Hid (Calls Tryz.prog 13 #[.int .i64 (i:Int)] wr fun e w'=>e=.returned (.string dl)∧Bel wr w'):=by rw[kU];exact xe i (by omega) wr
  have hdz:dl.size≤2:=by
   rw[kU];have:=Pl.oc 2 i (by omega) (by omega);show (Lib.decDigits i).toArray.size≤2;rw[List.size_toArray];omega
  clear kU;go_wp2_with fail
  refine N5.out.mono ?_;rintro e W5 ⟨rfl,oz⟩;obtain⟨nb,tS⟩:∃ nb:ByteArray,nb=({data:=#[115]}:ByteArray)++dl:=⟨_,rfl⟩
  have B5:nb.size≤3:=by
   rw[tS,ByteArray.size_append];show 1+dl.size≤3;omega
  have LX:¬ (9223372036854775807<1+dl.size):=by omega
  obtain⟨W6,I3⟩:∃ W6,W6=W5.alloc (.cells #[.string {data:=#[115,101,114,118,105,99,101]},.string nb,.slice none 0 0] 41):=⟨_,rfl⟩
  obtain⟨BX,qy⟩:∃ BX,BX=W5.heap.size:=⟨_,rfl⟩
  have BG:Bel W5 W6:=by rw[I3];exact ae zR _
  have uf:Hid (PB W W6 W.heap.size Q L BX s (.slice sa s.length sc) ⟨{data:=#[115,101,114,118,105,99,101]},nb,[]⟩ (.slice none 0 0)):=by
   have h5:=r7.out.later oz;have h6:=h5.later BG;have ho:=h5.ord;have hz:W6.heap.size=W5.heap.size+1:=by rw[I3];simp
   refine⟨h6.bel,h6.res,h6.box, ?_,(h5.dat.shift (Nat.le_of_eq qy.symm) (BX+1)).later BG,k9,by omega⟩;rw[I3,qy];exact al.new W5 [.string {data:=#[115,101,114,118,105,99,101]},.string nb,.slice none 0 0] 41 _ rfl
  have Mq:=uh B5;rw[tS]at I3;go_upto_region 9 with fail
  first|rw[← I3,← qy]|(rw[← tS]at I3 ⊢;rw[← I3,← qy])
  clear tS I3 qy BG oz r7 hdz LX N5 B5;go_wp2;go_loopw [8] (fun vk wr=>∃ (k:Nat) (b:Pl.Bl) (bv:Value),k≤10∧vk=.int .i64 (k:Int)∧PB W wr W.heap.size Q L BX s (.slice sa s.length sc) b bv∧(b.kind={data:=#[115,101,114,118,105,99,101]}∧b.name=nb)∧b.lines.length≤k∧(b.lines.map fun y=>Pl.wln y+1).sum≤k*230) (fun vk _=>10 - (intOf vk).toNat)
  case atStart=>exact⟨0,⟨{data:=#[115,101,114,118,105,99,101]},nb,[]⟩,_,by omega,rfl,uf.out,⟨rfl,rfl⟩,zE,by simp⟩
  case round=>
   obtain⟨k,b,bv,hk,rfl,hB,dP,eY,lO⟩:=hrel;obtain⟨ba,bc,HU⟩:=hB.lns.raw.bm;subst HU;have HB:=uh hB;have ES:=uh dP;have mQ:=uh eY;have Il:=uh lO;clear hB dP eY lO uf;by_cases hk10:k<10
   rotate_left
   ·have Lp:¬ ((k:Int)<10):=by omega
    have ho:=HB.out.ord;have MP:Hid (PR W wr W.heap.size Q L s (.slice sa s.length sc)):=⟨HB.out.bel,HB.out.res,HB.out.box,HB.out.dat.back (by omega),by omega⟩
    have tx:=uh (ja (S:=fun _=>False) (B:=0) (lo:=L) s b (.slice sa s.length sc) (.slice ba b.lines.length bc) wr MP.out.dat (HB.out.lns.lower (by omega)) (by have:=qx.out;omega) MP.out.ord.2.2.2);obtain⟨ls,gJ⟩:∃ ls,ls=Pl.dO s b:=⟨_,rfl⟩
    rw[← gJ]at tx;have ie:Hid (ls.length≤i+1∧Pl.wsh ls≤(i+1)*2400):=by
     refine⟨by rw[gJ,Pl.jY];have:=qx.out;omega, ?_⟩;have h1:Pl.wsh ls=Pl.wsh s+(Pl.wbl b+1):=by rw[gJ];unfold Pl.wsh Pl.dO;rw[y6]
     have h2:Pl.wbl b=b.kind.size+b.name.size+(b.lines.map fun x=>Pl.wln x+1).sum:=rfl;have h3:=Il.out;have h4:=Mq.out;have h5:=JF.out;have h6:k*230≤10*230:=Nat.mul_le_mul_right _ hk;rw[ES.out.1,ES.out.2]at h2;have h7:({data:=#[115,101,114,118,105,99,101]}:ByteArray).size=7:=rfl;rw[h1,Nat.succ_mul];omega
    clear gJ ho;have xa:=MP.out.box.at_;have xl:=MP.out.box.own.lt;have ya:=HB.out.bbx.at_;have yl:=HB.out.bbx.own.lt;go_upto_region 7 with(first|(refine wpList_load_mid rfl 25 _ rfl Q 0 rfl [.slice sa s.length sc] _ xa Tryz.underlying25 rfl (by kernel_rfl) ?_)|(refine wpList_load_mid rfl 41 _ rfl BX 0 rfl [.string b.kind,.string b.name,.slice ba b.lines.length bc] _ ya Tryz.underlying41 rfl (by kernel_rfl) ?_)|(go_at_call 16;refine tx.out.mono ?_;rintro e W8 ⟨c,rfl,yA,nM⟩;obtain⟨pa,pm,hc,yv⟩:=mu yA;subst hc;have kC:=uh (MP.out.later nM);have yt:=uh yv;have cp:W8.there Q 0 (#[.slice pa ls.length pm]:Array Value).size:=aR kC.out.box.own _ _ (by simp);clear yv yA nM xa xl ya yl;have xl:=kC.out.box.own.lt)|(refine wpList_store_mid rfl 25 _ _ rfl Q 0 #[.slice pa ls.length pm] rfl rfl cp (by kernel_rfl) (by simp[Value.oneCell']) ?_))
    obtain⟨W9,qA⟩:∃ W9,W9=W8.setCells Q 0 [.slice pa ls.length pm]:=⟨_,rfl⟩
    have K5:Hid (PR W W9 W.heap.size Q L ls (.slice pa ls.length pm)):=by show PR _ _ _ _ _ _ _;rw[qA];exact kC.out.put yt.out
    first|rw[← qA]|(simp only[List.toList_toArray];rw[← qA])
    clear qA cp xl kC yt tx MP HB;go_wp2;go_roundw
    case rel=>exact⟨i+1,ls,_,by omega,by go_num,K5.out,ie.out.1,ie.out.2⟩
    case measure=>simp[intOf];omega
   have oE:((k:Int)<10):=by omega
   have jL:IntKind.i64.wrap (200 - (k:Int))=((200 - k:Nat):Int):=by rw[wrap_small _ (by omega) (by omega)];omega
   obtain⟨sv,zA⟩:∃ sv:Value,sv=.slice sa s.length sc:=⟨_,rfl⟩
   rw[← zA]at HB;obtain⟨B0,mB⟩:∃ B0,B0=W.heap.size:=⟨_,rfl⟩
   rw[← mB]at HB;go_upto_region 12 with fail
   refine RY.jS wr zR (DI BX k b ba bc) (xi _ _ _ _ _) (fun _ W'=>∃ (x:ByteArray) (a:Option Addr) (m:Nat),x.size≤200∧PB W W' B0 Q L BX s sv ⟨b.kind,b.name,(Pl.ck b.kind b.lines (⟨{data:=#[108,105,107,101]},[x,{data:=#[49]}]⟩:Pl.Ln))⟩ (.slice a (b.lines.length+1) m)) 7 12 (by kernel_rfl) (by kernel_rfl) (by kernel_rfl) (by kernel_rfl) rfl [6] (by kernel_rfl) (by kernel_rfl) _ rfl rfl (by kernel_rfl) ?_ ?_ ?_
   ·intro ii o' ho E2 a X hX hk hd;have zBX:=HB.out.bbx.later hX;have zBXl:=zBX.own.lt;match ii,ho with
    |0,ho=>
     injection ho with ho;subst ho
     have v7:a.eval (.tmp 7)=.pointer (some ⟨BX,0,none⟩):=(hk 7 (by kernel_rfl)).trans rfl;exact Or.inl ⟨_,X,ar 41 _ rfl BX 0 v7 [.string b.kind,.string b.name,.slice ba b.lines.length bc] _ zBX.at_ Tryz.underlying41 rfl (by kernel_rfl),zR,rfl⟩
    |1,ho=>
     injection ho with ho;subst ho
     have e8:a.tmps[8]?.getD undef=.int .i64 (k:Int):=(RY.af a 8).trans ((hk 8 (by kernel_rfl)).trans rfl);exact Or.inl ⟨.int .i64 (k:Int),X,by simp[execOp,go_sem,e8],zR,rfl⟩
    |2,ho=>
     injection ho with ho;subst ho
     have e32:a.tmps[32]?.getD undef=.int .i64 (k:Int):=(RY.af a 32).trans (hd 1 _ 32 rfl rfl ⟨⟨1,.data⟩,by simp,rfl,rfl⟩ (by decide));exact Or.inl ⟨.int .i64 ((200 - k:Nat):Int),X,by simp[execOp,go_sem,e32,jL],zR,rfl⟩
    |3,ho=>
     injection ho with ho;subst ho
     have e33:a.tmps[33]?.getD undef=.int .i64 ((200 - k:Nat):Int):=(RY.af a 33).trans (hd 2 _ 33 rfl rfl ⟨⟨2,.data⟩,by simp,rfl,rfl⟩ (by decide));refine Or.inr ⟨15,#[.string {data:=#[116]},.int .i64 ((200 - k:Nat):Int)],by simp[go_sem,e33],(j9 {data:=#[116]} (200 - k) 200 X (by decide) (by omega) (by show (200 - k)*1≤200;omega) (by decide)).mono ?_⟩;rintro e W' ⟨⟨x,rfl,hx⟩,hW⟩;subst hW;exact⟨_,rfl,zR,x,rfl,hx⟩
    |4,ho=>
     injection ho with ho;subst ho
     obtain⟨x3,q34,mG⟩:=hd 3 _ 34 rfl rfl ⟨⟨3,.data⟩,by simp,rfl,rfl⟩ (by decide);have e34:a.tmps[34]?.getD undef=.string x3:=(RY.af a 34).trans q34;exact Or.inl ⟨.slice (some ⟨X.heap.size,0,none⟩) 2 2,X.alloc (.cells #[.string x3,.string {data:=#[49]}] 9),by simp[execOp,go_sem,e34],ae zR _,X.heap.size,x3,rfl,mG,GD x3 {data:=#[49]} (by have:=HB.out.ord;have:=hX.size;omega)⟩
    |5,ho=>
     injection ho with ho;subst ho
     obtain⟨c4,x4,q35,BO,hD4⟩:=hd 4 _ 35 rfl rfl ⟨⟨4,.data⟩,by simp,rfl,rfl⟩ (by decide);have e35:a.tmps[35]?.getD undef=.slice (some ⟨c4,0,none⟩) 2 2:=(RY.af a 35).trans q35;exact Or.inl ⟨.agg #[.string {data:=#[108,105,107,101]},.slice (some ⟨c4,0,none⟩) 2 2],X,by simp[execOp,go_sem,e35],zR,c4,x4,rfl,BO,hD4⟩
    |6,ho=>
     injection ho with ho;subst ho
     have e31:a.tmps[31]?.getD undef=.agg #[.string b.kind,.string b.name,.slice ba b.lines.length bc]:=(RY.af a 31).trans (hd 0 _ 31 rfl rfl ⟨⟨0,.data⟩,by simp,rfl,rfl⟩ (by decide));obtain⟨c5,x5,q36,Ft,hD5⟩:=hd 5 _ 36 rfl rfl ⟨⟨5,.data⟩,by simp,rfl,rfl⟩ (by decide);have e36:a.tmps[36]?.getD undef=.agg #[.string {data:=#[108,105,107,101]},.slice (some ⟨c5,0,none⟩) 2 2]:=(RY.af a 36).trans q36;refine Or.inr ⟨14,#[.agg #[.string b.kind,.string b.name,.slice ba b.lines.length bc],.agg #[.string {data:=#[108,105,107,101]},.slice (some ⟨c5,0,none⟩) 2 2]],by simp[go_sem,e31,e36],(jr (S:=fun _=>False) (B:=0) (lo:=BX+1) b (⟨{data:=#[108,105,107,101]},[x5,{data:=#[49]}]⟩:Pl.Ln) (.slice ba b.lines.length bc) (.slice (some ⟨c5,0,none⟩) 2 2) X (HB.out.lns.later hX) hD5 (by have:=mQ.out;omega) (by have:=HB.out.ord;have:=hX.size;omega)).mono ?_⟩;rintro e W' ⟨c,rfl,yA,hb⟩;obtain⟨pa,pm,hc,yv⟩:=mc yA;have lQ:c=[.string b.kind,.string b.name,.slice pa (Pl.ck b.kind b.lines (⟨{data:=#[108,105,107,101]},[x5,{data:=#[49]}]⟩:Pl.Ln)).length pm]:=hc;have hd9:Dat (fun _=>False) 0 (BX+1) W' bF [bT (Pl.ck b.kind b.lines (⟨{data:=#[108,105,107,101]},[x5,{data:=#[49]}]⟩:Pl.Ln))] [.slice pa (Pl.ck b.kind b.lines (⟨{data:=#[108,105,107,101]},[x5,{data:=#[49]}]⟩:Pl.Ln)).length pm]:=yv;rw[Pl.jZ]at lQ hd9;subst lQ;exact⟨_,rfl,hb,x5,pa,pm,rfl,Ft,hd9⟩
    |n+7,ho=>omega
   ·intro a X vals hX hk hV hd;obtain⟨x6,a6,m6,e37,Qs,hD6⟩:=hV 6 (by decide);have f37:=(hd 6 _ 37 rfl rfl ⟨⟨6,.data⟩,by simp,rfl,rfl⟩ (by decide)).trans e37;have f7:a.eval (.tmp 7)=.pointer (some ⟨BX,0,none⟩):=(hk 7 (by kernel_rfl)).trans rfl;have hB2:=HB.out.later hX;have cp:X.there BX 0 (#[.string b.kind,.string b.name,.slice a6 (b.lines.length+1) m6]:Array Value).size:=aR hB2.bbx.own _ _ (by simp);exact⟨X.setCells BX 0 [.string b.kind,.string b.name,.slice a6 (b.lines.length+1) m6],RY.dW _ _ _ rfl f7 f37 cp (by kernel_rfl) (by simp[Value.oneCell']),x6,a6,m6,Qs,hB2.put hD6⟩
   ·intro vals vs X hK bg;simp only[RY.aC,Act.put,List.setIfInBounds_toArray,List.set_cons_zero,List.set_cons_succ];generalize vs 31=sr;generalize vs 32=qw;generalize vs 33=qM;generalize vs 34=qX;generalize vs 35=lN;generalize vs 36=lI;generalize vs 37=lR;clear bg;obtain⟨x6,a6,m6,Qs,M8⟩:=hK;subst zA;subst mB;have uf:=uh M8;have wP:=uh Qs;clear M8 Qs HB jL;go_wp2;go_roundw
    case rel=>exact⟨k+1,⟨b.kind,b.name,(Pl.ck b.kind b.lines (⟨{data:=#[108,105,107,101]},[x6,{data:=#[49]}]⟩:Pl.Ln))⟩,_,by omega,by go_num,uf.out,ES.out,by have:=mQ.out;show (Pl.ck b.kind b.lines (⟨{data:=#[108,105,107,101]},[x6,{data:=#[49]}]⟩:Pl.Ln)).length≤k+1;rw[Pl.jZ];omega,JS wP.out Il.out⟩
    case measure=>simp[intOf];omega
theorem pU:∀ l:List UInt8,l.all Pl.bx=true→l.takeWhile Pl.bx=l
 |[],_=>rfl
 |c::l,h=>by
  rw[List.all_cons,Bool.and_eq_true]at h;rw[List.takeWhile_cons,if_pos h.1,pU l h.2]
theorem vh (l:List UInt8) (m:Nat) (h:l.length≤200) (hm:m<8):Pl.bE (Pl.de l) m=some [⟨l.toArray⟩]:=by
 have e0:Pl.bE [] (m+1)=some []:=by rw[Pl.bE]
 unfold Pl.de;split
 ·rename_i hb
  simp only[Pl.iu,Bool.and_eq_true,decide_eq_true_eq]at hb;cases l with
  |nil=>simp at hb
  |cons c r=>
   have hc:=hb.2;rw[List.all_cons,Bool.and_eq_true]at hc;have Rj:=hc.1;simp only[Pl.bx,Bool.and_eq_true,decide_eq_true_eq,bne_iff_ne]at Rj;have Qc:=pU (c::r) hb.2;have hn:Pl.fm c r=some (c::r,r.length):=by
    unfold Pl.fm;rw[if_neg (by omega),if_pos hc.1,Qc];rfl
   have hd:r.drop r.length=[]:=List.drop_length;rw[Pl.Ce _ c m (c::r) r.length (by omega) (by omega) hn (by rw[hd];simp only[List.length_cons]at h;simp[Pl.behind,hm];omega),hd,e0];rfl
 ·have hn:Pl.fm 34 (l.flatMap Pl.cq++[34])=some (l,(l.flatMap Pl.cq).length+1):=by
   unfold Pl.fm;rw[if_pos (by decide)];exact Pl.n9 l []
  have hd:(l.flatMap Pl.cq++[34]).drop ((l.flatMap Pl.cq).length+1)=[]:=by
   rw[show (l.flatMap Pl.cq).length+1=(l.flatMap Pl.cq++[34]).length by simp,List.drop_length]
  rw[Pl.Ce _ 34 m l _ (by decide) (by decide) hn (by rw[hd];simp[Pl.behind,hm];omega),hd,e0];rfl
theorem mi:∀ (ws:List ByteArray) (w:ByteArray) (m:Nat),w.size≤200→(∀ x∈ws,x.size≤200)→m+ws.length<8→Pl.bE (Pl.de w.data.toList++Pl.cS ws) m=some (w::ws)
 |[],w,m,hw,_,hm=>by
  have e:Pl.cS []=[]:=rfl;rw[e,List.append_nil,vh _ m (by rw[Pl.aD];exact hw) (by simpa using hm),Pl.back]
 |x::ws,w,m,hw,h,hm=>by
  rw[List.length_cons]at hm;have e:Pl.cS (x::ws)=32::(Pl.de x.data.toList++Pl.cS ws):=by unfold Pl.cS;rw[List.flatMap_cons];rfl
  rw[e,Pl.D9 _ _ m (by rw[Pl.aD];exact hw) (by omega),mi ws x (m+1) (h x (by simp)) (fun y hy=>h y (by simp[hy])) (by omega),Pl.back];rfl
theorem j6 (l:List UInt8) (m:Nat):Pl.bE (32::l) m=Pl.bE l m:=by rw[Pl.bE,if_pos (by decide)]
theorem zn:∀ (l acc r:List UInt8),(∀ c∈l,c.toNat≠10)→Pl.iS acc (l++10::r)=(acc++l)::Pl.iS [] r
 |[],acc,r,_=>by rw[List.nil_append,Pl.iS,if_pos (by decide),List.append_nil]
 |c::l,acc,r,h=>by
  rw[List.cons_append,Pl.iS,if_neg (h c (by simp)),zn l (acc++[c]) r (fun d hd=>h d (by simp[hd])),List.append_assoc];rfl
theorem vJ:∀ ls:List (List UInt8),(∀ l∈ls,∀ c∈l,c.toNat≠10)→Pl.iS [] (ls.flatMap fun l=>l++[10])=ls
 |[],_=>by rw[List.flatMap_nil,Pl.iS];rfl
 |l::ls,h=>by
  have e:(l::ls).flatMap (fun l=>l++[10])=l++10::ls.flatMap (fun l=>l++[10]):=by rw[List.flatMap_cons,List.append_assoc];rfl
  rw[e,zn l [] _ (h l (by simp)),vJ ls (fun x hx=>h x (by simp[hx])),List.nil_append]
def kt (b:Pl.Bl):List (List UInt8):=(b.kind.data.toList++[32]++b.name.data.toList)::(b.lines.map (fun x=> [32,32]++Pl.dw x)++[[101,110,100]])
def qF (s:List Pl.Bl):List (List UInt8):=s.flatMap kt
theorem GW (b:Pl.Bl):(kt b).flatMap (fun l=>l++[10])=Pl.er b:=by
 unfold kt Pl.er Pl.bN;rw[List.flatMap_cons,List.flatMap_append,List.flatMap_map];simp[List.append_assoc]
theorem CI:∀ s:List Pl.Bl,(qF s).flatMap (fun l=>l++[10])=Pl.aW s
 |[]=>rfl
 |b::s=>by
  unfold qF Pl.aW;rw[List.flatMap_cons,List.flatMap_append,GW,List.flatMap_cons];congr 1;exact CI s
theorem uW:∀ s:List Pl.Bl,(qF s).length=Pl.bQ s
 |[]=>rfl
 |b::s=>by
  unfold qF Pl.bQ;rw[List.flatMap_cons,List.length_append,List.map_cons,List.sum_cons];have h1:(kt b).length=b.lines.length+2:=by simp[kt]
  rw[h1];congr 1;exact uW s
theorem oe {l:List UInt8} (h:l.all Pl.bx=true):∀ c∈l,c.toNat≠10:=fun c hc=>by
 have:=List.all_eq_true.1 h c hc;simp only[Pl.bx,Bool.and_eq_true,decide_eq_true_eq]at this;omega
theorem zq:∀ n:Fin 16,(Pl.dd n.1).toNat≠10:=by decide+kernel
theorem sA (l:List UInt8):∀ c∈Pl.de l,c.toNat≠10:=by
 unfold Pl.de;split
 ·rename_i hb
  simp only[Pl.iu,Bool.and_eq_true]at hb;exact oe hb.2
 ·intro c hc;simp only[List.mem_cons,List.mem_append,List.mem_flatMap,List.not_mem_nil,or_false]at hc;rcases hc with rfl|⟨d,hd,hc⟩|rfl
  ·decide
  ·have kU:=Pl.vP d;unfold Pl.cq at hc;split at hc
   ·rename_i hs
    simp only[List.mem_singleton]at hc;subst hc;simp only[Pl.eC,Bool.and_eq_true,decide_eq_true_eq]at hs;omega
   ·simp only[List.mem_cons,List.not_mem_nil,or_false]at hc;rcases hc with rfl|rfl|rfl
    ·decide
    ·exact zq ⟨d.toNat / 16,by omega⟩
    ·exact zq ⟨d.toNat % 16,by omega⟩
  ·decide
theorem pO (ws:List ByteArray):∀ c∈Pl.cS ws,c.toNat≠10:=fun c hc=>by
 unfold Pl.cS at hc;simp only[List.mem_flatMap,List.mem_cons]at hc;obtain⟨w,hw,rfl|hc⟩:=hc
 ·decide
 ·exact sA _ c hc
theorem lW {l:List UInt8} (h0:0<l.length) (h:l.all Pl.bx=true):Pl.de l=l:=by
 unfold Pl.de;rw[if_pos (by simp[Pl.iu,h0,h])]
theorem mf {s:ByteArray} (h:Pl.aT s=true):0<s.data.toList.length∧s.data.toList.all Pl.bx=true∧s.size≤20:=by
 simp only[Pl.aT,Bool.and_eq_true,decide_eq_true_eq]at h;refine⟨by rw[Pl.aD];omega,List.all_eq_true.2 fun c hc=> ?_,h.1.2⟩;have h2:=List.all_eq_true.1 h.2 c hc;simp only[Pl.bV,Bool.or_eq_true,Bool.and_eq_true,decide_eq_true_eq]at h2;simp only[Pl.bx,Bool.and_eq_true,decide_eq_true_eq,bne_iff_ne];omega
theorem rf {k:ByteArray} (h:(Pl.ai k).length≠0):0<k.data.toList.length∧k.data.toList.all Pl.bx=true∧k.size≤20:=by
 have hz:k.data.toList.length=k.size:=Pl.aD k;have hk:k.data.toList=[116,101,97,109]∨k.data.toList=[98,101,114,116,104]∨k.data.toList=[115,101,114,118,105,99,101]:=by
  unfold Pl.ai at h;rw[Pl.tl]at h;split at h
  ·rename_i e;exact Or.inl (by simpa using e)
  ·split at h
   ·rename_i e;exact Or.inr (Or.inl (by simpa using e))
   ·split at h
    ·rename_i e;exact Or.inr (Or.inr (by simpa using e))
    ·simp at h
 rcases hk with e|e|e
 ·rw[← hz,e];decide
 ·rw[← hz,e];decide
 ·rw[← hz,e];decide
def Nt (r:Pl.Ru):Bool:=decide (0<r.key.data.toList.length)&&r.key.data.toList.all Pl.bx&&decide (r.key.size≤20)&& !(r.key.data.toList==[101,110,100])&&decide (r.args.length≤5)
theorem xd (k:ByteArray):∀ r∈Pl.ai k,Nt r=true:=by
 unfold Pl.ai;split
 ·decide+kernel
 ·split
  ·decide+kernel
  ·split
   ·decide+kernel
   ·intro r hr;cases hr
theorem Dz {t:Int} {s:ByteArray} (h:Pl.dV t s=true):s.size≤200:=by
 have hz:s.data.toList.length=s.size:=Pl.aD s;have LF:∀ x:ByteArray,Pl.cV x=true→x.size≤7:=fun x hx=>by
  simp only[Pl.cV,Pl.dF,Bool.and_eq_true,decide_eq_true_eq]at hx;omega
 unfold Pl.dV at h;split at h
 ·have:=LF s h;omega
 ·split at h
  ·unfold Pl.pL at h;rw[Bool.or_eq_true]at h;rcases h with h|h
   ·have:=LF s h;omega
   ·simp only[Bool.and_eq_true,decide_eq_true_eq]at h;have:=LF _ h.2;rw[ByteArray.size_extract]at this;omega
  ·split at h
   ·have:=(mf h).2.2;omega
   ·split at h
    ·rw[Bool.or_eq_true,Pl.tl]at h;rcases h with h|h
     ·have e:=eq_of_beq h;rw[← hz,e];decide
     ·have e:=eq_of_beq h;rw[← hz,e];decide
    ·split at h
     ·rw[Bool.or_eq_true,Bool.or_eq_true,Pl.tl]at h;rcases h with(h|h)|h
      ·have e:=eq_of_beq h;rw[← hz,e];decide
      ·have e:=eq_of_beq h;rw[← hz,e];decide
      ·have e:=eq_of_beq h;rw[← hz,e];decide
     ·simpa using h
theorem vL:∀ (zs:List Int) (ws:List ByteArray),zs.length=ws.length→Pl.eV zs ws=true→∀ w∈ws,w.size≤200
 |[],[],_,_,w,hw=>by cases hw
 |z::zs,x::ws,hl,h,w,hw=>by
  rw[Pl.eV,Bool.and_eq_true]at h;rcases List.mem_cons.1 hw with rfl|hw
  ·exact Dz h.1
  ·exact vL zs ws (by simpa using hl) h.2 w hw
theorem sS {kind:ByteArray} {x:Pl.Ln} (h:Pl.bh kind x.key x.ws=true):(∃ j,Pl.bC (Pl.ai kind) x.key=some j)∧0<x.key.data.toList.length∧x.key.data.toList.all Pl.bx=true∧x.key.size≤20∧x.key.data.toList≠ [101,110,100]∧x.ws.length≤5∧∀ w∈x.ws,w.size≤200:=by
 obtain⟨j,hj⟩:=Pl.zV h;have hl:=Pl.iZ hj;have hk:=Dl hj;have hm:(Pl.ai kind).getD j Pl.bq∈Pl.ai kind:=by
  have e:(Pl.ai kind).getD j Pl.bq=(Pl.ai kind)[j]:=by simp[hl]
  rw[e];exact List.getElem_mem hl
 have hb:=xd kind _ hm;simp only[Nt,Bool.and_eq_true,decide_eq_true_eq,Bool.not_eq_true',beq_eq_false_iff_ne,ne_eq]at hb;rw[hk]at hb;have hf:=h;unfold Pl.bh at hf;rw[hj]at hf;simp only[Pl.gP,Bool.and_eq_true,decide_eq_true_eq]at hf;exact⟨⟨j,hj⟩,hb.1.1.1.1,hb.1.1.1.2,hb.1.1.2,hb.1.2,by rw[← hf.1];exact hb.2,vL _ _ hf.1 hf.2⟩
theorem uX {kind:ByteArray} {x:Pl.Ln} (h:Pl.bh kind x.key x.ws=true):Pl.bE ([32,32]++Pl.dw x) 0=some (x.key::x.ws):=by
 obtain⟨_,h1,h2,h3,_,h5,h6⟩:=sS h;have e:[32,32]++Pl.dw x=32::32::(Pl.de x.key.data.toList++Pl.cS x.ws):=by rw[lW h1 h2];rfl
 rw[e,j6,j6,mi _ _ _ (by omega) h6 (by omega)]
theorem Cq {k n:ByteArray} (hk:(Pl.ai k).length≠0) (hn:Pl.aT n=true):Pl.bE (k.data.toList++[32]++n.data.toList) 0=some [k,n]:=by
 obtain⟨k1,k2,k3⟩:=rf hk;obtain⟨n1,n2,n3⟩:=mf hn;have e:k.data.toList++[32]++n.data.toList=Pl.de k.data.toList++Pl.cS [n]:=by
  rw[lW k1 k2];unfold Pl.cS;rw[List.flatMap_cons,List.flatMap_nil,lW n1 n2,List.append_assoc,List.append_nil];rfl
 rw[e,mi _ _ _ (by omega) (by intro x hx;rw[List.mem_singleton]at hx;subst hx;omega) (by simp)]
theorem Gc:Pl.bE [101,110,100] 0=some [{data:=#[101,110,100]}]:=vh [101,110,100] 0 (by decide) (by decide)
theorem th {st:Pl.PS} {l:List UInt8} {ws:List ByteArray} (h:Pl.bE l 0=some ws) (h0:Pl.eX st ws=0) (r:List ByteArray) (i:Nat):Pl.parseFrom st (⟨l.toArray⟩::r) i=Pl.parseFrom (Pl.eH st ws) r (i+1):=by
 have e:(⟨l.toArray⟩:ByteArray).data.toList=l:=by simp
 have h1:Pl.dR st ⟨l.toArray⟩=0:=by unfold Pl.dR;rw[e,h];exact h0
 have h2:Pl.jh st ⟨l.toArray⟩=Pl.eH st ws:=by unfold Pl.jh;rw[e,h]
 rw[Pl.parseFrom,if_pos h1,h2]
theorem uY {α:Type} (p:α→Bool) (l:List α) (x:α) (h:∀ y∈l,p y=true):Pl.putAt p l x=l++[x]:=by
 have h1:l.takeWhile p=l:=by
  induction l with
  |nil=>rfl
  |cons y l ih=>rw[List.takeWhile_cons,if_pos (h y (by simp)),ih (fun z hz=>h z (by simp[hz]))]
 have h2:l.dropWhile p=[]:=by
  have:=List.takeWhile_append_dropWhile (p:=p) (l:=l);rw[h1]at this;exact List.append_right_eq_self.1 this
 unfold Pl.putAt;rw[h1,h2]
theorem AF {kind name:ByteArray} {acc:List Pl.Bl} {pre post:List Pl.Ln} {x:Pl.Ln} (h:Pl.bU kind (pre++x::post)=true) (r:List ByteArray) (i:Nat):Pl.parseFrom ⟨acc,⟨kind,name,pre⟩,true⟩ (⟨([32,32]++Pl.dw x).toArray⟩::r) i=Pl.parseFrom ⟨acc,⟨kind,name,pre++[x]⟩,true⟩ r (i+1):=by
 have hf:=rG h x (by simp);obtain⟨⟨j,hj⟩,h1,h2,h3,h4,h5,h6⟩:=sS hf;have hp:=xh h;rw[List.pairwise_append]at hp;have FQ:∀ y∈pre,Pl.aL kind y x=true:=fun y hy=>hp.2.2 y hy x (by simp);have Ok:=z4 h x.key;have Qp:Pl.aI (pre++x::post) x.key=Pl.aI pre x.key+(Pl.aI post x.key+1):=by
  unfold Pl.aI;rw[List.countP_append,List.countP_cons];have:Pl.dD x.key x.key=true:=by simp[Pl.dD]
  rw[this];rfl
 rw[Qp]at Ok;have lQ:Pl.gy (Pl.fp kind x.key) (Pl.aI pre x.key+(Pl.aI post x.key+1))=true:=by
  rcases Ok with q|q
  ·omega
  ·exact q
 have qk:Pl.fp kind x.key=((Pl.ai kind).getD j Pl.bq).many:=by unfold Pl.fp;rw[hj]
 rw[qk]at lQ;have OH:Pl.gR pre x=0:=by
  unfold Pl.gR;rw[List.countP_eq_zero];intro y hy hc;rw[Bool.and_eq_true]at hc;have e1:y.key=x.key:=by
   have:=eq_of_beq hc.1;rw[Pl.tl,Pl.tl]at this;exact congrArg ByteArray.mk (Array.toList_inj.1 this)
  have e2:y.ws=x.ws:=(uu _ _).1 hc.2;have e3:y=x:=by cases y;cases x;simp only at e1 e2;rw[e1,e2]
  have:=FQ y hy;rw[e3,Kr]at this;cases this
 have gG:Pl.aY (x.key::x.ws)=x:=by cases x;rfl
 have zB:Pl.gL ⟨kind,name,pre⟩ (x.key::x.ws)=0:=by
  unfold Pl.gL;simp only[gG,hj,hf,OH];have p6:=lQ;unfold Pl.gy at p6;rw[Bool.not_eq_true',Bool.or_eq_false_iff,decide_eq_false_iff_not]at p6;rw[if_neg (by simp)];rw[if_neg ?_,if_neg (by omega)];intro hh;rw[Bool.or_eq_true,Bool.and_eq_true,decide_eq_true_eq,decide_eq_true_eq]at hh;rcases hh with q|q
  ·omega
  ·have hm:=q.2;rw[Bool.not_eq_true']at hm;have:=p6.1;rw[hm]at this;simp only[Bool.not_false,Bool.true_and,decide_eq_false_iff_not]at this;omega
 have dt:Pl.gN ⟨acc,⟨kind,name,pre⟩,true⟩ (x.key::x.ws)=false:=by
  unfold Pl.gN;have:(((x.key::x.ws).getD 0 Pl.aJ).toList==[101,110,100])=false:=by
   show (x.key.toList==[101,110,100])=false;rw[Pl.tl];exact beq_eq_false_iff_ne.2 h4
  rw[this];simp
 have hC:Pl.eX ⟨acc,⟨kind,name,pre⟩,true⟩ (x.key::x.ws)=0:=by
  unfold Pl.eX;rw[if_neg (by simp),dt];simp only[Bool.false_eq_true,if_false,if_true];exact zB
 have hS:Pl.eH ⟨acc,⟨kind,name,pre⟩,true⟩ (x.key::x.ws)=⟨acc,⟨kind,name,pre++[x]⟩,true⟩:=by
  unfold Pl.eH;rw[if_neg (by simp),dt];simp only[Bool.false_eq_true,if_false,if_true];unfold Pl.lz;rw[if_pos zB,gG];unfold Pl.ck;rw[uY _ _ _ FQ]
 rw[th (uX hf) hC,hS]
theorem pA {kind name:ByteArray} {acc:List Pl.Bl}:∀ (post pre:List Pl.Ln) (r:List ByteArray) (i:Nat),Pl.bU kind (pre++post)=true→Pl.parseFrom ⟨acc,⟨kind,name,pre⟩,true⟩ ((post.map fun x=>(⟨([32,32]++Pl.dw x).toArray⟩:ByteArray))++r) i=Pl.parseFrom ⟨acc,⟨kind,name,pre++post⟩,true⟩ r (i+post.length)
 |[],pre,r,i,_=>by rw[List.append_nil];rfl
 |x::post,pre,r,i,h=>by
  rw[List.map_cons,List.cons_append,AF h,pA post (pre++[x]) r (i+1) (by rw[List.append_assoc];exact h),List.append_assoc,List.length_cons];congr 1;omega
theorem xI {acc:List Pl.Bl} {b cur:Pl.Bl} (hk:(Pl.ai b.kind).length≠0) (hn:Pl.aT b.name=true) (hl:Pl.bU b.kind b.lines=true) (ha:∀ a∈acc,Pl.ahead a b=true) (BT:acc.length<60) (r:List ByteArray) (i:Nat):Pl.parseFrom ⟨acc,cur,false⟩ ((kt b).map (fun x=>(⟨x.toArray⟩:ByteArray))++r) i=Pl.parseFrom ⟨acc++[b],b,false⟩ r (i+(b.lines.length+2)):=by
 have NM:Pl.gQ acc b.kind b.name=none:=uI acc 0 fun a h=>by
  cases hb:Pl.isB b.kind b.name a
  ·rfl
  ·have h0:=(Bd a b.kind b.name).2 hb;have h1:=(rT.neg a b).2 (ha a h);have h2:dm a b=dm a ⟨b.kind,b.name,[]⟩:=rfl;rw[h2,h0]at h1;exact absurd h1 (by decide)
 have Nc:Pl.kD acc [b.kind,b.name]=0:=by
  unfold Pl.kD;rw[if_neg (by simp)];show (if (Pl.ai b.kind).length=0 then 3 else if Pl.aT b.name=false then 4 else if (Pl.gQ acc b.kind b.name).isSome then 9 else if 60≤acc.length then 10 else 0)=0;rw[if_neg hk,hn,NM,if_neg (by simp),if_neg (by simp),if_neg (by omega)]
 have hC:Pl.eX ⟨acc,cur,false⟩ [b.kind,b.name]=0:=by
  unfold Pl.eX Pl.gN;rw[if_neg (by simp)];simp only[Bool.false_and,Bool.false_eq_true,if_false];exact Nc
 have hS:Pl.eH ⟨acc,cur,false⟩ [b.kind,b.name]=⟨acc,⟨b.kind,b.name,[]⟩,true⟩:=by
  unfold Pl.eH Pl.gN;rw[if_neg (by simp)];simp only[Bool.false_and,Bool.false_eq_true,if_false];unfold Pl.pc;rw[if_pos Nc];rfl
 have hE:Pl.gN ⟨acc,b,true⟩ [{data:=#[101,110,100]}]=true:=by
  unfold Pl.gN;have:(([({data:=#[101,110,100]}:ByteArray)].getD 0 Pl.aJ).toList==[101,110,100])=true:=by
   show (({data:=#[101,110,100]}:ByteArray).toList==[101,110,100])=true;rw[Pl.tl];decide
  rw[this];simp
 have hC2:Pl.eX ⟨acc,b,true⟩ [{data:=#[101,110,100]}]=0:=by
  unfold Pl.eX;rw[if_neg (by simp),if_pos hE]
 have Pw:Pl.eH ⟨acc,b,true⟩ [{data:=#[101,110,100]}]=⟨acc++[b],b,false⟩:=by
  unfold Pl.eH;rw[if_neg (by simp),if_pos hE];unfold Pl.dO;rw[uY _ _ _ ha]
 unfold kt;rw[List.map_cons,List.cons_append,th (Cq hk hn) hC,hS,List.map_append,List.map_map,List.append_assoc];have e:(b.lines.map ((fun x=>(⟨x.toArray⟩:ByteArray)) ∘ fun x=> [32,32]++Pl.dw x))=b.lines.map fun x=>(⟨([32,32]++Pl.dw x).toArray⟩:ByteArray):=rfl;rw[e,pA b.lines [] _ _ (by rw[List.nil_append];exact hl),List.nil_append,List.map_cons,List.map_nil,List.singleton_append,th Gc hC2,Pw];congr 1;omega
theorem nh:∀ (post pre:List Pl.Bl) (cur:Pl.Bl) (i:Nat),(∀ b∈post,(Pl.ai b.kind).length≠0∧Pl.aT b.name=true∧Pl.bU b.kind b.lines=true)→(pre++post).Pairwise (fun a b=>Pl.ahead a b=true)→(pre++post).length≤60→Pl.parseFrom ⟨pre,cur,false⟩ ((qF post).map fun x=>(⟨x.toArray⟩:ByteArray)) i=(pre++post,0,0)
 |[],pre,cur,i,_,_,_=>by
  show Pl.parseFrom ⟨pre,cur,false⟩ [] i=_;rw[Pl.parseFrom,List.append_nil];rfl
 |b::post,pre,cur,i,h,hp,hl=>by
  have hb:=h b (by simp);have hpa:=List.pairwise_append.1 hp;have e:qF (b::post)=kt b++qF post:=by unfold qF;rw[List.flatMap_cons]
  rw[e,List.map_append,xI hb.1 hb.2.1 hb.2.2 (fun a ha=>hpa.2.2 a ha b (by simp)) (by simp only[List.length_append,List.length_cons]at hl;omega),nh post (pre++[b]) b _ (fun c hc=>h c (by simp[hc])) (by rw[List.append_assoc];exact hp) (by rw[List.append_assoc];exact hl),List.append_assoc];rfl
theorem zM {s:List Pl.Bl} (h:Pl.bH s=true):∀ b∈s,(Pl.ai b.kind).length≠0∧Pl.aT b.name=true∧Pl.bU b.kind b.lines=true:=fun b hb=>by
 obtain⟨i,hi,e⟩:=List.getElem_of_mem hb;have hv:=uF h hi;have e2:s.getD i Pl.aN=b:=by rw[← e];simp[hi]
 unfold Pl.dk at hv;rw[e2]at hv;simp only[Bool.and_eq_true,Bool.not_eq_true',decide_eq_false_iff_not]at hv;exact⟨hv.1.1.1,hv.1.1.2,hv.1.2⟩
theorem KK {b:Pl.Bl} (hk:(Pl.ai b.kind).length≠0) (hn:Pl.aT b.name=true) (hl:Pl.bU b.kind b.lines=true):∀ l∈kt b,∀ c∈l,c.toNat≠10:=fun l hm c hc=>by
 unfold kt at hm;simp only[List.mem_cons,List.mem_append,List.mem_map,List.not_mem_nil,or_false]at hm;rcases hm with rfl|⟨x,hx,rfl⟩|rfl
 ·simp only[List.mem_append,List.mem_singleton]at hc;rcases hc with(hc|rfl)|hc
  ·exact oe (rf hk).2.1 c hc
  ·decide
  ·exact oe (mf hn).2.1 c hc
 ·have hf:=sS (rG hl x hx);unfold Pl.dw at hc;simp only[List.cons_append,List.nil_append,List.mem_cons,List.mem_append]at hc;rcases hc with rfl|rfl|hc|hc
  ·decide
  ·decide
  ·exact oe hf.2.2.1 c hc
  ·exact pO _ c hc
 ·revert c;decide
theorem zX (s:List Pl.Bl) (h:(Pl.ez s).size≠0):Pl.eW (Pl.ez s)=(s,0,0):=by
 unfold Pl.ez at h ⊢;by_cases hc:(Pl.bH s&&decide ((Pl.aW s).length≤20000)&&decide (Pl.bQ s≤400))=true
 ·rw[if_pos hc];simp only[Bool.and_eq_true,decide_eq_true_eq]at hc;obtain⟨⟨hv,h2⟩,h4⟩:=hc;have hz:(⟨(Pl.aW s).toArray⟩:ByteArray).size=(Pl.aW s).length:=by
   show (Pl.aW s).toArray.size=_;rw[List.size_toArray]
  have hm:=zM hv;have fJ:Pl.fM ⟨(Pl.aW s).toArray⟩=(qF s).map fun x=>(⟨x.toArray⟩:ByteArray):=by
   unfold Pl.fM;show (Pl.iS [] (Pl.aW s)).map _=_;rw[← CI,vJ];intro l hl;unfold qF at hl;obtain⟨b,hb,hl⟩:=List.mem_flatMap.1 hl;have:=hm b hb;exact KK this.1 this.2.1 this.2.2 l hl
  unfold Pl.eW;rw[if_neg (by rw[hz];omega),fJ,if_neg (by rw[List.length_map,uW];omega)];exact nh s [] _ 0 hm (by rw[List.nil_append];exact wZ hv) (by rw[List.nil_append];exact vU hv)
 ·rw[if_neg hc]at h;exact absurd rfl h
namespace Pl
def iV (l:List UInt8):Prop:=(10:UInt8) ∉ l
theorem pD {l:List UInt8} (h:iV l):l.count 10=0:=List.count_eq_zero.2 h
theorem zm {p:UInt8→Bool} {l:List UInt8} (h:l.all p=true) (hp:p 10=false):iV l:=fun hm=>by
 rw[List.all_eq_true]at h;have:=h _ hm;rw[hp]at this;cases this
theorem yZ (n:Nat) (h:n<16):dd n≠10:=by
 have:∀ k:Fin 16,dd k.1≠10:=by decide
 exact this ⟨n,h⟩
theorem Ks (c:UInt8):iV (cq c):=by
 unfold cq iV;split
 ·rename_i h
  intro q;rw[List.mem_singleton]at q;subst q;exact absurd h (by decide)
 ·intro q;have hc:c.toNat<256:=c.toNat_lt;rcases List.mem_cons.1 q with q|q
  ·exact absurd q (by decide)
  ·rcases List.mem_cons.1 q with q|q
   ·exact yZ _ (by omega) q.symm
   ·rw[List.mem_singleton]at q;exact yZ _ (by omega) q.symm
theorem sA (l:List UInt8):iV (de l):=by
 unfold de;split
 ·rename_i h
  unfold iu at h;rw[Bool.and_eq_true]at h;exact zm h.2 (by decide)
 ·intro q;rcases List.mem_cons.1 q with q|q
  ·exact absurd q (by decide)
  ·rcases List.mem_append.1 q with q|q
   ·obtain⟨c,_,hc⟩:=List.mem_flatMap.1 q;exact Ks c hc
   ·rw[List.mem_singleton]at q;exact absurd q (by decide)
theorem pO (ws:List ByteArray):iV (cS ws):=by
 intro q;obtain⟨w,_,hc⟩:=List.mem_flatMap.1 q;rcases List.mem_cons.1 hc with q|q
 ·exact absurd q (by decide)
 ·exact sA _ q
theorem Eh (x:Ln) (h:iV x.key.data.toList):iV (dw x):=fun q=>by
 rcases List.mem_append.1 q with q|q
 ·exact h q
 ·exact pO _ q
theorem oW:∀ L:List Ln,(∀ x∈L,iV x.key.data.toList)→(bN L).count 10=L.length
 |[],_=>rfl
 |x::L,h=>by
  have ih:=oW L (fun y hy=>h y (List.mem_cons_of_mem _ hy));have hx:=pD (Eh x (h x (List.mem_cons_self ..)));have e:bN (x::L)=[32,32]++dw x++[10]++bN L:=by simp[bN]
  rw[e];simp only[List.count_append,hx,ih,List.length_cons];have e1:List.count (10:UInt8) [32,32]=0:=by decide
  have e2:List.count (10:UInt8) [10]=1:=by decide
  rw[e1,e2];omega
structure KD (b:Bl):Prop where
 k:iV b.kind.data.toList
 n:iV b.name.data.toList
 l:∀ x∈b.lines,iV x.key.data.toList
theorem xX {b:Bl} (h:KD b):(er b).count 10=b.lines.length+2:=by
 unfold er;simp only[List.count_append,pD h.k,pD h.n,oW _ h.l];have e1:List.count (10:UInt8) [32]=0:=by decide
 have e2:List.count (10:UInt8) [10]=1:=by decide
 have e3:List.count (10:UInt8) [101,110,100,10]=1:=by decide
 rw[e1,e2,e3];omega
theorem pP:∀ s:List Bl,(∀ b∈s,KD b)→(aW s).count 10=bQ s
 |[],_=>rfl
 |b::s,h=>by
  have ih:=pP s (fun y hy=>h y (List.mem_cons_of_mem _ hy));have e:aW (b::s)=er b++aW s:=by simp[aW]
  have e2:bQ (b::s)=b.lines.length+2+bQ s:=by simp[bQ]
  rw[e,e2,List.count_append,ih,xX (h b (List.mem_cons_self ..))]
theorem mS:∀ s:List Bl,s≠ []→(aW s).getLast? =some 10
 |[],h=>absurd rfl h
 |b::s,_=>by
  have e:aW (b::s)=er b++aW s:=by simp[aW]
  rw[e];by_cases hs:s=[]
  ·subst hs;have e2:aW []=[]:=rfl;rw[e2,List.append_nil];unfold er;rw[List.getLast?_append];rfl
  ·rw[List.getLast?_append,mS s hs];rfl
theorem ph:∀ (l acc:List UInt8),(l.getLast? =some 10∨(l=[]∧acc=[]))→(iS acc l).length=l.count 10
 |[],acc,h=>by
  rcases h with h|⟨_,h⟩
  ·cases h
  ·subst h;rfl
 |c::l,acc,h=>by
  have hl:(c::l).getLast? =some 10:=by
   rcases h with h|⟨h,_⟩
   ·exact h
   ·cases h
  have ht:c.toNat=10↔c=10:=⟨fun h=>UInt8.toNat_inj.1 h,fun h=>by rw[h];rfl⟩
  unfold iS;by_cases hc:c.toNat=10
  ·have hc':=ht.1 hc;rw[if_pos hc,hc',List.count_cons_self,List.length_cons];congr 1;cases l with
   |nil=>rfl
   |cons d l=>
    refine ph (d::l) [] (Or.inl ?_);rw[List.getLast?_cons_cons]at hl;exact hl
  ·rw[if_neg hc,List.count_cons_of_ne (fun e=>hc (ht.2 e))];cases l with
   |nil=>
    simp at hl;exact absurd (ht.2 hl) hc
   |cons d l=>
    refine ph (d::l) (acc++[c]) (Or.inl ?_);rw[List.getLast?_cons_cons]at hl;exact hl
theorem C1 (kind:ByteArray):∀ r∈ai kind,iV r.key.data.toList:=by
 unfold ai iV;split
 ·decide
 ·split
  ·decide
  ·split
   ·decide
   ·intro r hr;cases hr
theorem Gb {kind:ByteArray} (h:(ai kind).length≠0):iV kind.data.toList:=by
 unfold ai at h;rw[← tl];split at h
 ·rename_i e;rw[beq_iff_eq.1 e];unfold iV;decide
 ·split at h
  ·rename_i e;rw[beq_iff_eq.1 e];unfold iV;decide
  ·split at h
   ·rename_i e;rw[beq_iff_eq.1 e];unfold iV;decide
   ·simp at h
theorem iD (key:ByteArray):∀ (l:List Ru) (i k:Nat),dU key l i=some k→∃ r∈l,(r.key.toList==key.toList)=true
 |[],_,_,h=>by cases h
 |r::l,i,k,h=>by
  unfold dU at h;split at h
  ·rename_i e;exact⟨r,List.mem_cons_self ..,e⟩
  ·obtain⟨q,hq,e⟩:=iD key l (i+1) k h;exact⟨q,List.mem_cons_of_mem _ hq,e⟩
theorem Kk {kind key:ByteArray} {ws:List ByteArray} (h:bh kind key ws=true):iV key.data.toList:=by
 unfold bh at h;cases hi:bC (ai kind) key with
 |none=>rw[hi]at h;cases h
 |some j=>
  obtain⟨r,hr,e⟩:=iD key _ 0 j hi;have q:=C1 kind r hr;rw[iN e]at q;exact q
theorem CB {s:List Bl} (h:bH s=true):∀ b∈s,KD b:=by
 intro b hb;unfold bH at h;rw[Bool.and_eq_true,List.all_eq_true]at h;obtain⟨i,hi,e⟩:=List.getElem_of_mem hb;have h1:=h.2 i (List.mem_range.2 hi);have eg:s.getD i aN=b:=by rw[← e];simp[hi]
 unfold dk at h1;rw[eg,Bool.and_eq_true,Bool.and_eq_true,Bool.and_eq_true]at h1;obtain⟨⟨⟨q1,q2⟩,q3⟩,_⟩:=h1;refine⟨Gb (by simpa using q1), ?_,fun x hx=> ?_⟩
 ·unfold aT at q2;rw[Bool.and_eq_true]at q2;exact zm q2.2 (by decide)
 ·unfold bU at q3;rw[List.all_eq_true]at q3;obtain⟨j,hj,ej⟩:=List.getElem_of_mem hx;have h2:=q3 j (List.mem_range.2 hj);have ex:b.lines.getD j aK=x:=by rw[← ej];simp[hj]
  unfold dj at h2;rw[ex,Bool.and_eq_true,Bool.and_eq_true]at h2;exact Kk h2.1.1
theorem Bb {s:List Bl} (h:bH s=true):(fM ⟨(aW s).toArray⟩).length=bQ s:=by
 rw[← pP s (CB h),fM,List.length_map];by_cases hs:s=[]
 ·subst hs;rfl
 ·exact ph _ _ (Or.inl (mS s hs))
end Pl
theorem vT (s:List Pl.Bl) (v:Value) (w:World) (h:Raw w bu [bD s] [v]) (hz:xm s) (Bp:Pl.wsh s≤1048576):
  Calls Tryz.prog 5 #[.agg #[v]] w fun e w'=>e=.returned (.string (Pl.ez s))∧Bel w w':=by
 have HL:=uh h;have ow:=uh Bp;obtain⟨va,vc,ev⟩:=h.bm;subst ev;obtain⟨R,hR⟩:∃ R,R=Pl.ez s:=⟨_,rfl⟩
 have HR:Hid (R=if Pl.bH s&&decide ((Pl.aW s).length≤20000)&&decide (Pl.bQ s≤400) then ⟨(Pl.aW s).toArray⟩ else ⟨#[]⟩):=hR;rw[← hR];clear hR;obtain⟨wa,aZ⟩:∃ wa,wa=w.alloc (.cells #[.slice va s.length vc] 25):=⟨_,rfl⟩
 have jG:Hid (Bel w wa):=by show Below _ _ _;rw[aZ];exact ae zR _
 obtain⟨b0,cd⟩:∃ b0,b0=w.heap.size:=⟨_,rfl⟩
 have kW:=uh cd;have cL:Hid (al wa b0 25 [.slice va s.length vc]):=by show al _ _ _ _;rw[aZ,cd];exact al.new w [.slice va s.length vc] 25 _ rfl
 have HC:=uh (uj s _ wa (h.later jG.out) hz (by rw[oR];exact Bp));clear h hz Bp;have z0:=cL.out.get 0 _ rfl;have zl:=cL.out.own.lt;obtain⟨vd,MJ⟩:∃ b,b=Pl.bH s:=⟨_,rfl⟩
 have HVD:=uh MJ;rw[← MJ]at HC HR;clear MJ;go_enter Tryz.func5,Tryz.ntmps5
 go_upto_region 1 with fail
 rw[← aZ,← cd];clear aZ cd;cases vd
 ·have HE:Hid (R=⟨#[]⟩):=HR.out;go_wp2_with (go_at_call 7;refine HC.out.mono ?_;rintro e w1 ⟨rfl,bJ⟩)
  go_ret;exact⟨Pl.eo HE.out.symm,ah jG.out bJ⟩
 go_wp2_with fail
 refine HC.out.mono ?_;rintro e w1 ⟨rfl,bJ⟩;have gE:Hid (Bel w w1):=ah jG.out bJ;replace cL:=uh (cL.out.later bJ)
 clear z0 zl bJ HC jG;obtain⟨b,hb⟩:∃ b,b=w1.heap.size:=⟨_,rfl⟩
 obtain⟨w2,gI⟩:∃ w2,w2=w1.alloc (.cells #[.pointer none,.slice none 0 0] eB):=⟨_,rfl⟩
 have Ra:Hid (BW w.heap.size b [] w2):=by
  refine⟨by rw[hb];exact gE.out.size,.pointer none,.slice none 0 0,Or.inl rfl, ?_,By.nil _ _,fun _=>rfl⟩;rw[gI];exact al.new w1 [.pointer none,.slice none 0 0] eB _ hb
 have H12:Hid (Bel w1 w2):=by show Below _ _ _;rw[gI];exact ae zR _
 have lK:Hid (al w2 b0 25 [.slice va s.length vc]):=cL.out.later H12.out;have z0:=lK.out.get 0 _ rfl;have zl:=lK.out.own.lt;have mQ:Hid (Bel w w2):=ah gE.out H12.out;have HBLT:Hid (b<w2.heap.size):=by show _<_;rw[gI,hb];simp
 go_upto_region 4 with fail
 rw[← gI,← hb];clear gI hb;go_wp2_with fail
 go_loopw [15] (fun vi wr=>∃ k:Nat,k≤s.length∧vi=.int .i64 k∧BW w.heap.size b (Pl.aW (s.take k)) wr∧KB w.heap.size b w2 wr∧w.heap.size≤wr.heap.size) (fun vi _=>s.length - (intOf vi).toNat)
 case atStart=>exact⟨0,zN,rfl,Ra.out,KB.refl _ _ _,mQ.out.size⟩
 case round=>
  obtain⟨k,hk,rfl,lO,kh,bR⟩:=hrel;have mH:=uh lO;have tI:=uh kh;have qW:=uh bR;have wg:Hid ((Pl.aW (s.take k)).length≤6*1048576):=by
   show _≤_;have h1:=Pl.kN (s.take k);have h2:=Pl.dy (fun b:Pl.Bl=>Pl.wbl b+1) s k;have h3:=ow.out;unfold Pl.wsh at h1 h3;omega
  have p5:Hid (Bel w wr):=mQ.out.trans kh.bel;clear lO kh bR z0 zl;by_cases bd:k<s.length
  rotate_left
  ·obtain rfl:k=s.length:=by omega
   have HT0:=wg.out;rw[List.take_length]at mH wg;have qg:=uh (QG w.heap.size b (Pl.aW s) wr mH.out (by have:=wg.out;omega));obtain⟨T,hT⟩:∃ T:ByteArray,T=⟨(Pl.aW s).toArray⟩:=⟨_,rfl⟩
   have HTZ:Hid (T.size=(Pl.aW s).length):=by show _=_;rw[hT];simp[ByteArray.size]
   have Cb:Hid ((Pl.fM T).length=Pl.bQ s):=by show _=_;rw[hT];exact Pl.Bb HVD.out.symm
   rw[← hT]at qg HR;have HLI:=uh (fun W=>mX T W (by have:=HTZ.out;have:=wg.out;unfold maxLen;omega));clear hT HT0;go_wp2_with fail
   refine qg.out.mono ?_;rintro e w5 ⟨rfl,oz⟩;have P8:Hid (Bel w w5):=p5.out.trans oz;clear oz;go_wp2_with fail
   refine(HLI.out _).mono ?_;rintro e w6 ⟨BH,BG⟩;have uf:Hid (Bel w w6):=ah P8.out BG;unfold vp at BH;rw[Cb.out,HTZ.out]at BH;rw[Bool.true_and]at HR;by_cases h20:20000<(Pl.aW s).length
   ·rw[if_pos h20]at BH;subst BH;have HE:Hid (R=⟨#[]⟩):=by show R=_;rw[HR.out,decide_eq_false (by omega)];rfl
    go_wp2;go_ret;exact⟨Pl.eo HE.out.symm,uf.out⟩
   ·rw[if_neg h20]at BH;obtain⟨g,c,he,_⟩:=BH;subst he;by_cases h400:Pl.bQ s≤400
    ·have HE:Hid (R=T):=by show R=_;rw[HR.out,decide_eq_true (by omega),decide_eq_true h400];rfl
     rw[decide_eq_true h400];go_wp2;go_ret;exact⟨Pl.eo HE.out.symm,uf.out⟩
    ·have HE:Hid (R=⟨#[]⟩):=by show R=_;rw[HR.out,decide_eq_false h400,Bool.and_false];rfl
     rw[decide_eq_false h400];go_wp2;go_ret;exact⟨Pl.eo HE.out.symm,uf.out⟩
  rcases db HL.out with⟨e0,_⟩|⟨p,o,c',hv,hp,fK,aO⟩
  ·omega
  injection hv with g1 _ g3
  subst g1;subst g3;unfold maxLen at fK;obtain⟨ax,cx,hg,fe⟩:=aO k bd;obtain⟨x,hx⟩:∃ x,x=s.getD k Pl.aN:=⟨_,rfl⟩
  rw[← hx]at hg fe;have fw:=aB hg hp p5.out;have x0:wr.cell? ⟨p,o+k*3,none⟩=some (.string x.kind):=aE fw 0 _ rfl;have x1:wr.cell? ⟨p,o+k*3+1,none⟩=some (.string x.name):=aE fw 1 _ rfl;have x2:wr.cell? ⟨p,o+k*3+2,none⟩=some (.slice ax x.lines.length cx):=aE fw 2 _ rfl;have ME:p<wr.heap.size:=zL hp qW.out;have ec:(0:Int)≤(k:Int):=by omega
  have dP:(k:Int)<(s.length:Int):=by omega
  have BC:Hid (Pl.wbl x≤1048576):=by
   show _≤_;have e:s.getD k Pl.aN=s[k]:=by simp[bd]
   have:=Pl.cW (fun b:Pl.Bl=>Pl.wbl b+1) s _ (List.getElem_mem bd);have h3:=ow.out;unfold Pl.wsh at h3;rw[hx,e];omega
  have HN:Hid (Pl.aW (s.take (k+1))=Pl.aW (s.take k)++Pl.er x):=by
   show _=_;rw[Pl.cX Pl.aN s k bd,← hx];simp[Pl.aW]
  have N1:=uh fe;clear aO hg fw fe hx;obtain⟨wy,Ii⟩:∃ wy,wy=wr.alloc (.cells #[.string x.kind,.string x.name,.slice ax x.lines.length cx] 41):=⟨_,rfl⟩
  obtain⟨bl,eY⟩:∃ bl,bl=wr.heap.size:=⟨_,rfl⟩
  have Li:Hid (Bel wr wy):=by show Below _ _ _;rw[Ii];exact ae zR _
  have M0:Hid (aS wy bl [.string x.kind,.string x.name,.slice ax x.lines.length cx]):=by show aS _ _ _;rw[Ii,eY];exact aS.new wr #[.string x.kind,.string x.name,.slice ax x.lines.length cx] _ _ rfl
  go_upto_region 7 with fail
  rw[← Ii,← eY];clear Ii eY x0 x1 x2;have y0:=M0.out.get 0 _ rfl;have y1:=M0.out.get 1 _ rfl;have y2:=M0.out.get 2 _ rfl;have yl:=M0.out.lt;have Sj:=uh (Kn w wy b (Pl.aW (s.take k)) x ax cx (ah p5.out Li.out) N1.out (mH.out.later Li.out) (by obtain⟨_,p2,v2,_,q2,_⟩:=mH.out;exact zL q2.own.lt Li.out.size) (by have:=wg.out;omega) BC.out);go_wp2_with fail
  refine Sj.out.mono ?_;rintro e w7 ⟨rfl,Bw,EZ,K3⟩;rw[← HN.out]at Bw;have SK:=uh Bw;have Se:Hid (KB w.heap.size b w2 w7):=(tI.out.trans (KB.of qW.out Li.out)).trans EZ;clear Bw EZ Sj y0 y1 y2 yl;go_wp2;go_roundw
  case rel=>exact⟨k+1,by omega,by go_num,SK.out,Se.out,K3⟩
  case measure=>simp[intOf];omega
theorem uD (s:List Pl.Bl) (v:Value) (w:World) (h:Raw w bu [bD s] [v]) (hz:xm s) (Bp:Pl.wsh s≤1048576):
  Calls Tryz.prog 6 #[.agg #[v]] w fun e w'=>e=.returned (.string (Pl.ez s))∧Bel w w':=by
 have HL:=uh h;have ow:=uh Bp;obtain⟨va,vc,ev⟩:=h.bm;subst ev;have HR:Hid (Pl.ez s=if Pl.bH s&&decide ((Pl.aW s).length≤20000)&&decide (Pl.bQ s≤400) then ⟨(Pl.aW s).toArray⟩ else ⟨#[]⟩):=rfl;obtain⟨wa,aZ⟩:∃ wa,wa=w.alloc (.cells #[.slice va s.length vc] 25):=⟨_,rfl⟩
 have jG:Hid (Bel w wa):=by show Below _ _ _;rw[aZ];exact ae zR _
 obtain⟨b0,cd⟩:∃ b0,b0=w.heap.size:=⟨_,rfl⟩
 have cL:Hid (al wa b0 25 [.slice va s.length vc]):=by show al _ _ _ _;rw[aZ,cd];exact al.new w [.slice va s.length vc] 25 _ rfl
 have HC:=uh (ng s _ wa (h.later jG.out) hz);clear h hz Bp;obtain⟨n,hn⟩:∃ n,n=s.length:=⟨_,rfl⟩
 have HN:=uh hn;rw[← hn]at cL HC aZ ⊢;clear hn;obtain⟨vd,MJ⟩:∃ b,b=Pl.bH s:=⟨_,rfl⟩
 rw[← MJ]at HC HR;clear MJ;go_enter Tryz.func6,Tryz.ntmps6
 go_upto_region 1 with fail
 rw[← aZ,← cd];clear aZ;have kW:=uh cd;clear cd;have x0:=cL.out.get 0 _ rfl;have xl:=cL.out.own.lt;go_wp2_with fail
 refine HC.out.mono ?_;rintro e w1 ⟨rfl,bJ⟩;replace cL:=uh (cL.out.later bJ)
 replace jG:=uh (ah jG.out bJ)
 clear bJ x0 xl HC;cases vd
 ·go_wp2;go_ret;exact⟨Pl.eo (by rw[HR.out];rfl),jG.out⟩
 have lM:Hid (b0+1≤w1.heap.size):=by show _≤_;have:=cL.out.own.lt;omega
 go_wp2;go_loopw [3,4,5] (fun vo vn vi wr=>∃ k:Nat,k≤n∧vi=.int .i64 k∧vn=.int .i64 ((Pl.bQ (s.take k):Nat):Int)∧By wr (b0+1) vo (Pl.aW (s.take k))∧al wr b0 25 [.slice va n vc]∧Bel w wr) (fun _ _ vi _=>n - (intOf vi).toNat)
 case atStart=>exact⟨0,zN,rfl,rfl,By.emp w1 (b0+1) lM.out,cL.out.later (ae zR _),ae jG.out _⟩
 case round=>
  clear cL jG lM;obtain⟨k,hk,rfl,rfl,hO,mB,hW⟩:=hrel;have je:Hid ((Pl.aW (s.take k)).length≤6291456):=by
   show _≤_;have h1:=Pl.kN (s.take k);have h2:=Pl.dy (fun b=>Pl.wbl b+1) s k;have h3:=ow.out;unfold Pl.wsh at h1 h3;omega
  have qi:Hid (∀ k,Pl.bQ (s.take k)≤4194304):=fun k=>by
   have h2:=Pl.dy (fun b:Pl.Bl=>b.lines.length+2) s k;have h3:=ow.out;have h4:=yM s;unfold Pl.bQ at h4 ⊢;omega
  have IB:=qi.out k;have HO:=uh hO;have cL:=uh mB;have HW:=uh hW;have x0:=mB.get 0 _ rfl;have xl:=mB.own.lt;obtain⟨sa,sc,hvo⟩:=hO.shape;subst hvo;clear hO mB hW;by_cases bd:k<n
  rotate_left
  ·have zu:s.take k=s:=List.take_of_length_le (by have:=HN.out;omega);rw[zu]at HO je IB ⊢;clear zu;obtain⟨O,hO⟩:∃ O,O=Pl.aW s:=⟨_,rfl⟩
   obtain⟨ct,yG⟩:∃ ct,ct=Pl.bQ s:=⟨_,rfl⟩
   rw[← hO]at HR HO je ⊢;rw[← yG]at HR IB ⊢;have Ie:=HO.out.zp;have SI:=uh Ie;clear hO yG Ie qi;by_cases h1:(20000:Int)<(O.length:Int)
   ·go_wp2;go_ret;exact⟨Pl.eo (by rw[HR.out,if_neg (by simp;omega)]),HW.out⟩
   by_cases h2:(400:Int)<(ct:Int)
   ·go_wp2;go_ret;exact⟨Pl.eo (by rw[HR.out,if_neg (by simp;omega)]),HW.out⟩
   have Ie:=SI.out;go_wp2;go_ret;exact⟨Pl.eo (by rw[HR.out,if_pos (by simp;omega)]),HW.out⟩
  have iF:k<s.length:=by have:=HN.out;omega
  have MK:Hid (Pl.aW (s.take (k+1))=Pl.aW (s.take k)++Pl.er (s.getD k Pl.aN)):=by
   show _=_;rw[Pl.cX Pl.aN s k iF];simp[Pl.aW]
  have nP:Hid (Pl.bQ (s.take (k+1))=Pl.bQ (s.take k)+((s.getD k Pl.aN).lines.length+2)):=by
   show _=_;rw[Pl.cX Pl.aN s k iF];simp[Pl.bQ]
  have L2:=qi.out (k+1);rw[nP.out]at L2;have jM:Pl.wbl (s.getD k Pl.aN)≤1048576:=by
   have e:s.getD k Pl.aN=s[k]:=by simp[iF]
   have h1:=Pl.cW (fun b=>Pl.wbl b+1) s _ (List.getElem_mem iF);have h3:=ow.out;unfold Pl.wsh at h3;rw[e];omega
  rcases db HL.out with⟨e0,_⟩|⟨p,o,c,hv,hp,fK,aO⟩
  ·omega
  rw[← HN.out]at hv fK;injection hv with g1 _ g3
  subst g1;subst g3;unfold maxLen at fK;obtain⟨ax,cx,jf,fe⟩:=aO k iF;obtain⟨x,hx⟩:∃ x,x=s.getD k Pl.aN:=⟨_,rfl⟩
  rw[← hx]at jf fe MK nP jM L2;have ED:wr.rangeAt p (o+k*3) [.string x.kind,.string x.name,.slice ax x.lines.length cx]:=aB jf hp HW.out;have Ro:p<wr.heap.size:=zL hp HW.out.size;have JH:=uh fe;obtain⟨O,hO⟩:∃ O,O=Pl.aW (s.take k):=⟨_,rfl⟩
  obtain⟨ct,yG⟩:∃ ct,ct=Pl.bQ (s.take k):=⟨_,rfl⟩
  rw[← hO]at MK HO je ⊢;rw[← yG]at nP IB L2 ⊢;have zI:=uh jM;obtain⟨wq,qL⟩:∃ wq,wq=wr.alloc (.cells #[.string x.kind,.string x.name,.slice ax x.lines.length cx] 41):=⟨_,rfl⟩
  obtain⟨b1,bJ⟩:∃ b1,b1=wr.heap.size:=⟨_,rfl⟩
  have E4:Bel wr wq:=by rw[qL];exact ae zR _
  have fU:Hid (al wq b1 41 [.string x.kind,.string x.name,.slice ax x.lines.length cx]):=by show al _ _ _ _;rw[qL,bJ];exact al.new wr [.string x.kind,.string x.name,.slice ax x.lines.length cx] 41 _ rfl
  replace cL:=uh (cL.out.later E4)
  replace HO:=uh (HO.out.later E4)
  replace HW:=uh (ah HW.out E4)
  have ec:(0:Int)≤(k:Int):=by omega
  have dP:(k:Int)<(n:Int):=by omega
  clear hx aO hO yG hp jf fe jM qi;go_upto_region 9 with(refine wpList_load_mid rfl 41 _ rfl p (o+k*3) rfl [.string x.kind,.string x.name,.slice ax x.lines.length cx] _ ED Tryz.underlying41 rfl (by kernel_rfl) ?_)
  rw[← qL,← bJ];clear qL bJ E4 ED x0 xl Ro ec dP;have z0:=fU.out.get 0 _ rfl;have z1:=fU.out.get 1 _ rfl;have zl:=fU.out.own.lt;have hsk:x.kind.size+x.name.size≤1048576:=by have:=zI.out;unfold Pl.wbl at this;omega
  have l1:¬ (9223372036854775807<x.kind.size+1):=by omega
  have l2:¬ (9223372036854775807<x.kind.size+1+x.name.size):=by omega
  have l3:¬ (9223372036854775807<x.kind.size+1+x.name.size+1):=by omega
  obtain⟨T,hT⟩:∃ T,T=x.kind++(⟨#[32]⟩:ByteArray)++x.name++(⟨#[10]⟩:ByteArray):=⟨_,rfl⟩
  have Cb:Hid (T.data.toList=x.kind.data.toList++[32]++x.name.data.toList++[10]):=by show _=_;rw[hT];simp[ByteArray.data_append]
  have hTz:T.size≤1048578:=by rw[← Pl.aD,Cb.out];simp only[List.length_append,Pl.aD,List.length_cons,List.length_nil];omega
  have Qq:x.kind++(⟨#[32]⟩:ByteArray)++x.name++(⟨#[10]⟩:ByteArray)=T:=hT.symm;clear hT;go_upto_region 10 with(refine tu rfl _ _ rfl (b0+1) (.slice sa O.length sc) O rfl HO.out T (by simp[Act.eval]) (by have:=je.out;omega) (by have:=cL.out.own.lt;omega) ?_;intro v2 w2 q1 q2;have HQ:=uh (And.intro q1 q2);clear q1 q2)
  have NX:=uh (HO.out.ne cL.out (by decide));have Oo:=uh (HO.out.ne fU.out (by decide));replace cL:=uh (cL.out.grow HQ.out.2 NX.out)
  replace fU:=uh (fU.out.grow HQ.out.2 Oo.out)
  replace HW:=uh (HO.out.below HW.out HQ.out.2 (by have:=kW.out;omega))
  replace HO:=uh HQ.out.1
  clear HQ NX Oo z0 z1 zl Qq l1 l2 l3;rw[Cb.out]at HO;obtain⟨O1,Qn⟩:∃ O1,O1=O++(x.kind.data.toList++[32]++x.name.data.toList++[10]):=⟨_,rfl⟩
  have O4:Hid (O1.length≤8388608):=by
   show _≤_;rw[Qn];simp only[List.length_append,Pl.aD,List.length_cons,List.length_nil];have:=je.out;omega
  have HN3:Hid (Pl.aW (s.take (k+1))=O1++Pl.bN x.lines++[101,110,100,10]):=by
   show _=_;rw[MK.out,Qn,Pl.er];simp only[List.append_assoc]
  rw[← Qn]at HO;obtain⟨sa2,sc2,iI⟩:=HO.out.shape;subst iI;clear Qn MK je Cb hTz hsk;obtain⟨wo,FJ⟩:∃ wo,wo=w2:=⟨_,rfl⟩
  have nC:=uh (fun (W:World) (hW:Bel w W)=>JH.out.later hW);go_wp2;go_loopw [3,7] (fun vo vi wr=>∃ q:Nat,q≤x.lines.length∧vi=.int .i64 q∧By wr (b0+1) vo (O1++Pl.bN (x.lines.take q))∧al wr b0 25 [.slice (some ⟨p,o,none⟩) n vc]∧al wr b1 41 [.string x.kind,.string x.name,.slice ax x.lines.length cx]∧Bel w wr) (fun _ vi _=>x.lines.length - (intOf vi).toNat)
  case atStart=>exact⟨0,zN,rfl,by simpa [Pl.bN]using HO.out,cL.out,fU.out,HW.out⟩
  case round=>
   clear HO cL fU HW FJ;obtain⟨q,hq,rfl,hO,mB,qy,hW⟩:=hrel;have Qa:Hid (∀ q,(Pl.bN (x.lines.take q)).length≤6291456):=fun q=>by
    have h1:=Pl.iX (x.lines.take q);have h2:=Pl.dy (fun z=>Pl.wln z+1) x.lines q;have h3:=zI.out;unfold Pl.wbl at h3;omega
   have HO:=uh hO;have cL:=uh mB;have fU:=uh qy;have HW:=uh hW;have z2:=qy.get 2 _ rfl;have zl:=qy.own.lt;obtain⟨sa3,sc3,Pz⟩:=hO.shape;subst Pz;clear hO mB qy hW;by_cases hql:q<x.lines.length
   rotate_left
   ·have zu:x.lines.take q=x.lines:=List.take_of_length_le (by omega);rw[zu]at HO ⊢;have fJ:=Qa.out q;rw[zu]at fJ;clear zu;obtain⟨O2,Ja⟩:∃ O2,O2=O1++Pl.bN x.lines:=⟨_,rfl⟩
    have Ma:Hid (O2.length≤16777216):=by show _≤_;rw[Ja,List.length_append];have:=O4.out;omega
    rw[← Ja]at HO HN3 ⊢;clear Ja fJ Qa;have bR:b0+1≤wr.heap.size:=by have:=cL.out.own.lt;omega
    go_wp2_with (refine tu rfl _ _ rfl (b0+1) (.slice sa3 O2.length sc3) O2 rfl HO.out ⟨#[101,110,100,10]⟩ rfl (by have:=Ma.out;simp[ByteArray.size];omega) bR ?_;intro v4 w4 q1 q2;have HQ:=uh (And.intro q1 q2);have zz:=(fU.out.grow q2 (HO.out.ne fU.out (by decide))).get 2 _ rfl;have zzl:=(fU.out.grow q2 (HO.out.ne fU.out (by decide))).own.lt;clear q1 q2)
    go_roundw
    case rel=>exact⟨k+1,by omega,by go_num,by rw[nP.out];go_num,by rw[HN3.out];exact HQ.out.1,cL.out.grow HQ.out.2 (HO.out.ne cL.out (by decide)),HO.out.below HW.out HQ.out.2 (by have:=kW.out;omega)⟩
    case measure=>simp[intOf];omega
   have wi:Hid (Pl.bN (x.lines.take (q+1))=Pl.bN (x.lines.take q)++([32,32]++Pl.dw (x.lines.getD q Pl.aK)++[10])):=by
    show _=_;rw[Pl.cX Pl.aK x.lines q hql];simp[Pl.bN]
   have qe:Pl.wln (x.lines.getD q Pl.aK)≤1048576:=by
    have e:x.lines.getD q Pl.aK=x.lines[q]:=by simp[hql]
    have h1:=Pl.cW (fun z=>Pl.wln z+1) x.lines _ (List.getElem_mem hql);have h3:=zI.out;unfold Pl.wbl at h3;rw[e];omega
   have hlq:=Qa.out q;rcases cE (nC.out wr HW.out) with⟨e0,_⟩|⟨p2,o2,c2,iI,wQ,Q3,jJ⟩
   ·omega
   injection iI with k1 _ k3
   subst k1;subst k3;unfold maxLen at Q3;obtain⟨az,cz,Hm,EK⟩:=jJ q hql;obtain⟨z,hz⟩:∃ z,z=x.lines.getD q Pl.aK:=⟨_,rfl⟩
   rw[← hz]at Hm EK wi qe;have hlz:=Pl.mq z;have HC:=uh (CC z az cz wr EK qe);obtain⟨O2,Ja⟩:∃ O2,O2=O1++Pl.bN (x.lines.take q):=⟨_,rfl⟩
   have Ma:Hid (O2.length≤16777216):=by show _≤_;rw[Ja,List.length_append];have:=O4.out;omega
   rw[← Ja]at HO ⊢;have nO:Hid (O1++Pl.bN (x.lines.take (q+1))=O2++([32,32]++Pl.dw z++[10])):=by show _=_;rw[wi.out,Ja];simp only[List.append_assoc]
   have Oq:(0:Int)≤(q:Int):=by omega
   have JI:(q:Int)<(x.lines.length:Int):=by omega
   obtain⟨Y,hY⟩:∃ Y:ByteArray,Y=⟨(Pl.dw z).toArray⟩:=⟨_,rfl⟩
   rw[← hY]at HC;have hYz:Y.size≤3145728:=by rw[hY];simp[ByteArray.size];omega
   have HYL:Hid (Y.data.toList=Pl.dw z):=by show _=_;rw[hY]
   have l1:¬ (9223372036854775807<2+Y.size):=by omega
   have l2:¬ (9223372036854775807<2+Y.size+1):=by omega
   clear hz Ja jJ EK wi qe hlz hlq Qa hY;go_wp2_with (refine wpList_load_mid rfl 46 _ rfl p2 (o2+q*2) rfl [.string z.key,.slice az z.ws.length cz] _ Hm Tryz.underlying46 rfl (by kernel_rfl) ?_)
   refine HC.out.mono ?_;rintro e w3 ⟨rfl,eP⟩;replace HO:=uh (HO.out.later eP)
   replace cL:=uh (cL.out.later eP)
   replace fU:=uh (fU.out.later eP)
   replace HW:=uh (ah HW.out eP)
   clear eP HC Hm z2 zl;obtain⟨T,hT⟩:∃ T,T=(⟨#[32,32]⟩:ByteArray)++Y++(⟨#[10]⟩:ByteArray):=⟨_,rfl⟩
   have Cb:Hid (T.data.toList=[32,32]++Pl.dw z++[10]):=by show _=_;rw[hT];simp[ByteArray.data_append,HYL.out]
   have hTz:T.size≤4194304:=by rw[← Pl.aD,Cb.out,← HYL.out];simp only[List.length_append,Pl.aD,List.length_cons,List.length_nil];omega
   have Qq:(⟨#[32,32]⟩:ByteArray)++Y++(⟨#[10]⟩:ByteArray)=T:=hT.symm;have bR:b0+1≤w3.heap.size:=by have:=cL.out.own.lt;omega
   clear hT;go_wp2_with (refine tu rfl _ _ rfl (b0+1) (.slice sa3 O2.length sc3) O2 rfl HO.out T (by simp[Act.eval]) (by have:=Ma.out;omega) bR ?_;intro v4 w4 q1 q2;have HQ:=uh (And.intro q1 q2);clear q1 q2)
   go_roundw
   case rel=>exact⟨q+1,by omega,by go_num,by rw[nO.out,← Cb.out];exact HQ.out.1,cL.out.grow HQ.out.2 (HO.out.ne cL.out (by decide)),fU.out.grow HQ.out.2 (HO.out.ne fU.out (by decide)),HO.out.below HW.out HQ.out.2 (by have:=kW.out;omega)⟩
   case measure=>simp[intOf];omega
theorem QM (W:World) (c f:List Value) (t1 t2:TypeId) (y1 y2:World) (h1:y1=((W.alloc (.cells #[.slice none 0 0] t1)).alloc (.cells #[.int .i64 0,.int .i64 0] t2)).setCells W.heap.size 0 c) (h2:y2=y1.setCells (W.heap.size+1) 0 f) (hc:c.length=1) (hf:f.length=2):
  ((W.alloc (.cells #[.slice none 0 0] t1)).alloc (.cells #[.int .i64 0,.int .i64 0] t2)).there W.heap.size 0 c.toArray.size∧y1.there (W.heap.size+1) 0 f.toArray.size∧al y2 W.heap.size t1 c∧al y2 (W.heap.size+1) t2 f∧Bel W y2:=by
 have b1:al ((W.alloc (.cells #[.slice none 0 0] t1)).alloc (.cells #[.int .i64 0,.int .i64 0] t2)) W.heap.size t1 [.slice none 0 0]:=(al.new W [.slice none 0 0] t1 _ rfl).later (ae zR _);have b2:al ((W.alloc (.cells #[.slice none 0 0] t1)).alloc (.cells #[.int .i64 0,.int .i64 0] t2)) (W.heap.size+1) t2 [.int .i64 0,.int .i64 0]:=al.new (W.alloc (.cells #[.slice none 0 0] t1)) [.int .i64 0,.int .i64 0] t2 _ (by simp);have th1:((W.alloc (.cells #[.slice none 0 0] t1)).alloc (.cells #[.int .i64 0,.int .i64 0] t2)).there W.heap.size 0 c.toArray.size:=aR b1.own _ _ (by simp[hc]);have m1:Marks (fun b=>b=W.heap.size) ((W.alloc (.cells #[.slice none 0 0] t1)).alloc (.cells #[.int .i64 0,.int .i64 0] t2)) y1:=by rw[h1];exact aM (S:=fun b=>b=W.heap.size) rfl _ _ _
 have c2:=b2.mks m1 (by omega);have th2:y1.there (W.heap.size+1) 0 f.toArray.size:=aR c2.own _ _ (by simp[hf]);have m2:Marks (fun b=>b=W.heap.size+1) y1 y2:=by rw[h2];exact aM (S:=fun b=>b=W.heap.size+1) rfl _ _ _
 have c1:al y1 W.heap.size t1 c:=by
  rw[h1];exact⟨(by rw[hc];exact dB _ _ _ b1.own),World.rangeAt_setCells_same _ _ _ _ (by simpa using th1)⟩
 refine⟨th1,th2,c1.mks m2 (by omega), ?_,m2.below (fun b e=>by omega) (m1.below (fun b e=>by omega) (ae (ae zR _) _))⟩;rw[h2];exact⟨(by rw[hf];exact dB _ _ _ c2.own),World.rangeAt_setCells_same _ _ _ _ (by simpa using th2)⟩
theorem Ev (s:List Pl.Bl):(Pl.ez s).size≤20000:=by
 unfold Pl.ez;split
 ·rename_i h
  simp only[Bool.and_eq_true,decide_eq_true_eq]at h;show (Pl.aW s).toArray.size≤20000;rw[List.size_toArray];exact h.1.2
 ·show 0≤20000;omega
def Kq (s:List Pl.Bl) (sa:Option Addr) (sc:Nat) (pt:ByteArray) (vb:Bool):Nat→Value→World→Prop
 |0,vv,_=>vv=.string pt
 |1,vv,_=>vv=.agg #[.slice sa s.length sc]
 |2,vv,_=>vv=.string pt
 |3,vv,_=>vv=.bool false
 |4,vv,_=>vv=.bool false
 |5,vv,_=>vv=.agg #[.slice sa s.length sc]
 |6,vv,_=>vv=.bool vb
 |7,vv,_=>vv=.agg #[.slice sa s.length sc]
 |8,vv,_=>vv=.bool vb
 |9,vv,_=>vv=.bool false
 |10,vv,_=>vv=.bool false
 |_,_,_=>True
theorem Aa (s:List Pl.Bl) (sa:Option Addr) (sc:Nat) (pt:ByteArray) (vb:Bool):∀ jj vv W W',Bel W W'→Kq s sa sc pt vb jj vv W→Kq s sa sc pt vb jj vv W':=by
 intro jj vv W W' hb h;match jj with
 |0=>exact h
 |1=>exact h
 |2=>exact h
 |3=>exact h
 |4=>exact h
 |5=>exact h
 |6=>exact h
 |7=>exact h
 |8=>exact h
 |9=>exact h
 |10=>exact h
 |n+11=>exact trivial
theorem Nd (v:Value) (w:World) (h:jw w v) (hg:qE w):
  Calls Tryz.prog 3 #[v] w fun e w'=>e=.returned (.bool true)∧Bel w w':=by
 have SG:=uh hg;have HD:=uh (AZ G6 v w h);obtain⟨a,n0,c,hv⟩:∃ a n c,v=.slice a n c:=by rcases h with⟨a,c,e⟩|⟨b,off,n,cap,e,_⟩;exact⟨_,_,_,e⟩;exact⟨_,_,_,e⟩
 subst hv;clear h hg;have cL:Hid (Bel w w):=zR;go_enter Tryz.func3,Tryz.ntmps3
 by_cases ht:(1048576:Int)<(n0:Int)
 ·go_wp2;go_ret;exact⟨rfl,cL.out⟩
 go_wp2_with fail
 refine HD.out.mono ?_;rintro e w1 ⟨⟨s,sv,rfl,hr,hw⟩,bJ⟩;obtain⟨sa,sc,zA⟩:=hr.bm;subst zA;obtain⟨w2,gI⟩:∃ w2,w2=w1.alloc (.cells #[.slice sa s.length sc] 25):=⟨_,rfl⟩
 obtain⟨bS,Jc⟩:∃ bS,bS=w1.heap.size:=⟨_,rfl⟩
 have eD:Bel w1 w2:=by rw[gI];exact ae zR _
 have fV:al w2 bS 25 [.slice sa s.length sc]:=by rw[gI,Jc];exact al.new _ _ _ _ rfl
 have fL:=uh fV;have gW:=uh (hr.later eD);have I6:=uh hw.gz.1;have lK:=uh (ah bJ eD);obtain⟨pt,Jw⟩:∃ pt,pt=Pl.ez s:=⟨_,rfl⟩
 have Ey:=uh Jw;have fB:Hid (pt.size≤20000):=by show _≤_;rw[Jw];exact Ev s
 have M3:=uh (vT s _ w2 gW.out I6.out.ok I6.out.wt);rw[← Jw]at M3;go_upto_region 4 with fail
 rw[← gI,← Jc];clear gI Jc bJ eD fV hr hw HD cL Jw;have zx:=fL.out.at_;have zl:=fL.out.own.lt;go_wp2_with (refine wpList_load_mid rfl 25 _ rfl bS 0 rfl [.slice sa s.length sc] _ zx Tryz.underlying25 rfl (by kernel_rfl) ?_)
 refine M3.out.mono ?_;rintro e w3 ⟨rfl,eP⟩;have tV:=uh (fL.out.later eP);have g9:=uh (gW.out.later eP);have tA:=uh (ah lK.out eP);clear zx zl eP M3 fL gW lK;obtain⟨vb,St⟩:∃ vb,vb=Pl.bH s:=⟨_,rfl⟩
 have HPS:Hid (∀ X,Bel w3 X→Calls Tryz.prog 6 #[.agg #[.slice sa s.length sc]] X fun e w'=>e=.returned (.string pt)∧Bel X w'):=fun X hX=>by rw[Ey.out];exact uD s _ X (g9.out.later hX) I6.out.ok I6.out.wt
 have HVI:Hid (∀ X,Bel w3 X→Calls Tryz.prog 7 #[.agg #[.slice sa s.length sc]] X fun e w'=>e=.returned (.bool vb)∧Bel X w'):=fun X hX=>by rw[St];exact mU s _ X (g9.out.later hX) I6.out.ok
 have HVS:Hid (∀ X,Bel w3 X→Calls Tryz.prog 8 #[.agg #[.slice sa s.length sc]] X fun e w'=>e=.returned (.bool vb)∧Bel X w'):=fun X hX=>by rw[St];exact ng s _ X (g9.out.later hX) I6.out.ok
 clear St;go_upto_region 5 with fail
 refine RY.aH w3 zR (Kq s sa sc pt vb) (Aa _ _ _ _ _) (by kernel_rfl) (by kernel_rfl) (by kernel_rfl) (by kernel_rfl) ?_ ?_
 ·intro ii o' ho a X hX hk hd;have zbS:=tV.out.later hX;have zbSl:=zbS.own.lt;match ii,ho with
  |0,ho=>
   injection ho with ho;subst ho
   have e4:a.tmps[4]?.getD undef=.string pt:=(RY.af a 4).trans ((hk 4 (by kernel_rfl)).trans rfl);exact Or.inl ⟨RY.au rfl,Or.inl ⟨.string pt,X,by simp[execOp,go_sem,e4],zR,rfl⟩⟩
  |1,ho=>
   injection ho with ho;subst ho
   have v3:a.eval (.tmp 3)=.pointer (some ⟨bS,0,none⟩):=(hk 3 (by kernel_rfl)).trans rfl;exact Or.inl ⟨RY.au rfl,Or.inl ⟨_,X,ar 25 _ rfl bS 0 v3 [.slice sa s.length sc] _ zbS.at_ Tryz.underlying25 rfl (by kernel_rfl),zR,rfl⟩⟩
  |2,ho=>
   injection ho with ho;subst ho
   have e15:a.tmps[15]?.getD undef=.agg #[.slice sa s.length sc]:=(RY.af a 15).trans (hd 1 _ 15 rfl rfl ⟨⟨1,.data⟩,by simp,rfl,rfl⟩);refine Or.inl ⟨RY.au rfl,Or.inr ⟨6,#[.agg #[.slice sa s.length sc]],by simp[go_sem,e15],(HPS.out X hX).mono ?_⟩⟩;rintro e W' ⟨rfl,hb⟩;exact⟨_,rfl,hb,rfl⟩
  |3,ho=>
   injection ho with ho;subst ho
   have e14:a.tmps[14]?.getD undef=.string pt:=(RY.af a 14).trans (hd 0 _ 14 rfl rfl ⟨⟨0,.data⟩,by simp,rfl,rfl⟩);have e16:a.tmps[16]?.getD undef=.string pt:=(RY.af a 16).trans (hd 2 _ 16 rfl rfl ⟨⟨2,.data⟩,by simp,rfl,rfl⟩);exact Or.inl ⟨RY.au rfl,Or.inl ⟨.bool false,X,by simp[execOp,go_sem,e14,e16],zR,rfl⟩⟩
  |4,ho=>
   injection ho with ho;subst ho
   have e17:a.tmps[17]?.getD undef=.bool false:=(RY.af a 17).trans (hd 3 _ 17 rfl rfl ⟨⟨3,.data⟩,by simp,rfl,rfl⟩);exact Or.inl ⟨RY.au rfl,Or.inl ⟨.bool false,X,by simp[execOp,go_sem,e17],zR,rfl⟩⟩
  |5,ho=>
   injection ho with ho;subst ho
   have gd:=hd 4 _ 18 rfl rfl ⟨⟨4,.guard⟩,by simp,rfl,rfl⟩;have v3:a.eval (.tmp 3)=.pointer (some ⟨bS,0,none⟩):=(hk 3 (by kernel_rfl)).trans rfl;exact Or.inl ⟨(RY.aj rfl rfl rfl gd).trans rfl,Or.inl ⟨_,X,ar 25 _ rfl bS 0 v3 [.slice sa s.length sc] _ zbS.at_ Tryz.underlying25 rfl (by kernel_rfl),zR,rfl⟩⟩
  |6,ho=>
   injection ho with ho;subst ho
   have gd:=hd 4 _ 18 rfl rfl ⟨⟨4,.guard⟩,by simp,rfl,rfl⟩;have e19:a.tmps[19]?.getD undef=.agg #[.slice sa s.length sc]:=(RY.af a 19).trans (hd 5 _ 19 rfl rfl ⟨⟨5,.data⟩,by simp,rfl,rfl⟩);refine Or.inl ⟨(RY.aj rfl rfl rfl gd).trans rfl,Or.inr ⟨7,#[.agg #[.slice sa s.length sc]],by simp[go_sem,e19],(HVI.out X hX).mono ?_⟩⟩;rintro e W' ⟨rfl,hb⟩;exact⟨_,rfl,hb,rfl⟩
  |7,ho=>
   injection ho with ho;subst ho
   have gd:=hd 4 _ 18 rfl rfl ⟨⟨4,.guard⟩,by simp,rfl,rfl⟩;have v3:a.eval (.tmp 3)=.pointer (some ⟨bS,0,none⟩):=(hk 3 (by kernel_rfl)).trans rfl;exact Or.inl ⟨(RY.aj rfl rfl rfl gd).trans rfl,Or.inl ⟨_,X,ar 25 _ rfl bS 0 v3 [.slice sa s.length sc] _ zbS.at_ Tryz.underlying25 rfl (by kernel_rfl),zR,rfl⟩⟩
  |8,ho=>
   injection ho with ho;subst ho
   have gd:=hd 4 _ 18 rfl rfl ⟨⟨4,.guard⟩,by simp,rfl,rfl⟩;have e21:a.tmps[21]?.getD undef=.agg #[.slice sa s.length sc]:=(RY.af a 21).trans (hd 7 _ 21 rfl rfl ⟨⟨7,.data⟩,by simp,rfl,rfl⟩);refine Or.inl ⟨(RY.aj rfl rfl rfl gd).trans rfl,Or.inr ⟨8,#[.agg #[.slice sa s.length sc]],by simp[go_sem,e21],(HVS.out X hX).mono ?_⟩⟩;rintro e W' ⟨rfl,hb⟩;exact⟨_,rfl,hb,rfl⟩
  |9,ho=>
   injection ho with ho;subst ho
   have gd:=hd 4 _ 18 rfl rfl ⟨⟨4,.guard⟩,by simp,rfl,rfl⟩;have e20:a.tmps[20]?.getD undef=.bool vb:=(RY.af a 20).trans (hd 6 _ 20 rfl rfl ⟨⟨6,.data⟩,by simp,rfl,rfl⟩);have e22:a.tmps[22]?.getD undef=.bool vb:=(RY.af a 22).trans (hd 8 _ 22 rfl rfl ⟨⟨8,.data⟩,by simp,rfl,rfl⟩);exact Or.inl ⟨(RY.aj rfl rfl rfl gd).trans rfl,Or.inl ⟨.bool false,X,by simp[execOp,go_sem,e20,e22],zR,rfl⟩⟩
  |10,ho=>
   injection ho with ho;subst ho
   have e18:a.tmps[18]?.getD undef=.bool false:=(RY.af a 18).trans (hd 4 _ 18 rfl rfl ⟨⟨4,.data⟩,by simp,rfl,rfl⟩);have e23:a.tmps[23]?.getD undef=.bool false:=(RY.af a 23).trans (hd 9 _ 23 rfl rfl ⟨⟨9,.data⟩,by simp,rfl,rfl⟩);exact Or.inl ⟨RY.au rfl,Or.inl ⟨.bool false,X,by simp[execOp,go_sem,e18,e23],zR,rfl⟩⟩
  |n+11,ho=>simp at ho
 intro X vs hX bg;have q24:vs 24=_:=bg 10 _ 24 rfl rfl;simp only[RY.aC,Act.put,List.setIfInBounds_toArray,List.set_cons_zero,List.set_cons_succ];rw[q24];generalize vs 14=s14;generalize vs 15=s15;generalize vs 16=s16;generalize vs 17=s17;generalize vs 18=s18;generalize vs 19=s19;generalize vs 20=s20;generalize vs 21=s21;generalize vs 22=s22;generalize vs 23=s23;clear bg q24;have kr:=uh (tV.out.later hX);have nz:=uh (g9.out.later hX);have Fw:=uh (ah tA.out hX);have NW:=uh (SG.out.later Fw.out);obtain⟨wq,qL⟩:∃ wq,wq=X:=⟨_,rfl⟩
 rw[← qL]at kr nz Fw NW ⊢;clear hX qL tV g9 tA HPS HVI HVS;have Fu:=uh (uA pt wq NW.out (by have:=fB.out;omega));obtain⟨o,ho⟩:∃ o,o=Pl.eW pt:=⟨_,rfl⟩
 rw[← ho]at Fu;have HOO:=uh ho;clear ho;go_wp2_with fail
 refine Fu.out.mono ?_;rintro e w4 ⟨c,F,rfl,rep,_,_,hb⟩;obtain⟨F2,v2,fk,hc,r2⟩:=jC rep;subst hc;obtain⟨ta,tm,iI⟩:=r2.raw.bm;subst iI;have B9:=uh (kr.out.later hb);have FV:=uh (nz.out.later hb);have P8:=uh (ah Fw.out hb);have HT5:=uh r2.raw;clear hb r2 fk rep Fu kr nz Fw NW;obtain⟨yS1,tz⟩:∃ y,y=((w4.alloc (.cells #[.slice none 0 0] 25)).alloc (.cells #[.int .i64 0,.int .i64 0] 30)).setCells w4.heap.size 0 [.slice ta o.1.length tm]:=⟨_,rfl⟩
 obtain⟨yS,Q0⟩:∃ y,y=yS1.setCells (w4.heap.size+1) 0 [.int .i64 ((o.2.1:Nat):Int),.int .i64 ((o.2.2:Nat):Int)]:=⟨_,rfl⟩
 obtain⟨wG,OB,ed,fV,hb⟩:=QM w4 [.slice ta o.1.length tm] [.int .i64 ((o.2.1:Nat):Int),.int .i64 ((o.2.2:Nat):Int)] 25 30 yS1 yS tz Q0 rfl rfl;have wP:=uh (B9.out.later hb);have Bx:=uh (FV.out.later hb);have uf:=uh (ah P8.out hb);have HT6:=uh (HT5.out.later hb);have M5:=uh ed;have HXF:=uh fV;have nQ:=uh tz;have zy:=uh Q0;clear hb ed fV tz Q0 B9 FV P8 HT5;go_upto_region 8 with(first|(refine wpList_store_mid rfl 25 _ _ rfl w4.heap.size 0 #[.slice ta o.1.length tm] rfl rfl wG (by kernel_rfl) (by simp[Value.oneCell']) ?_;first|rw[← nQ.out]|(simp only[List.toList_toArray];rw[← nQ.out]))|(refine wpList_store_mid rfl 30 _ _ rfl (w4.heap.size+1) 0 #[.int .i64 ((o.2.1:Nat):Int),.int .i64 ((o.2.2:Nat):Int)] rfl rfl OB (by kernel_rfl) (by simp[Value.oneCell']) ?_;first|rw[← zy.out]|(simp only[List.toList_toArray];rw[← zy.out])))
 clear wG OB nQ zy;by_cases hz:pt.size=0
 ·have OQ:pt={data:=#[]}:=by
   cases pt with
   |mk a=>exact congrArg ByteArray.mk (Array.eq_empty_of_size_eq_zero hz)
  subst OQ;go_wp2;go_ret;exact⟨rfl,uf.out⟩
 have JC:¬ pt.toList=[]:=fun e=>hz (by have h2:pt.data.toList.length=pt.size:=Pl.aD pt;rw[← Pl.tl,e]at h2;exact h2.symm);have wU:o=(s,0,0):=by rw[HOO.out,Ey.out];exact zX s (by rw[← Ey.out];exact hz)
 subst wU;have ow:=uh (DT s (.slice ta s.length tm) (.slice sa s.length sc) yS HT6.out Bx.out I6.out.ln I6.out.lw);have f1:=HXF.out.get 1 _ rfl;have fl:=HXF.out.own.lt;have ta_:=M5.out.get 0 _ rfl;have tl_:=M5.out.own.lt;have sa_:=wP.out.get 0 _ rfl;have sl_:=wP.out.own.lt;clear hz;go_wp2_with fail
 refine ow.out.mono ?_;rintro e w9 ⟨rfl,jk⟩;have HB9:=uh (ah uf.out jk);clear jk f1 fl ta_ tl_ sa_ sl_ ow;go_wp2;go_ret;exact⟨rfl,HB9.out⟩
end Go.Proofs.YtopjjknojnfhmaaGreatDoor
