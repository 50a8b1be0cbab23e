import Derived.Test.YtopjjknojnfhmaaGreatDoorEPj
import Derived.Test.YtopjjknojnfhmaaGreatDoorELc
namespace Go.Proofs.YtopjjknojnfhmaaGreatDoor
set_option maxRecDepth 8000
set_option maxHeartbeats 40000000
open Go.RowKit Go.Deep
theorem pW {W:World} {mb:Nat} {vt vb vs:Value} (hb:W.heap[mb]? =some (.map #[⟨.string {data:=#[116,101,97,109]},.agg #[vt],0⟩,⟨.string {data:=#[98,101,114,116,104]},.agg #[vb],1⟩,⟨.string {data:=#[115,101,114,118,105,99,101]},.agg #[vs],2⟩] 3)) (kind:ByteArray):
  (Instr.lookup 60 (.map (some mb)) (.string kind) true).run Tryz.prog W=.ok (.tuple #[.agg #[il kind vt vb vs],.bool (!decide ((Pl.ai kind).length=0))]) W:=by
 have hz:(zeroValue 64).run Tryz.prog W=.ok (.agg #[.slice none 0 0]) W:=by kernel_rfl
 have e1:=fF kind [116,101,97,109] {data:=#[116,101,97,109]} (by decide+kernel);have e2:=fF kind [98,101,114,116,104] {data:=#[98,101,114,116,104]} (by decide+kernel);have e3:=fF kind [115,101,114,118,105,99,101] {data:=#[115,101,114,118,105,99,101]} (by decide+kernel);obtain⟨r,hr,hv,hk⟩:∃ r,Instr.findNow .string (.string kind) [⟨.string {data:=#[116,101,97,109]},.agg #[vt],0⟩,⟨.string {data:=#[98,101,114,116,104]},.agg #[vb],1⟩,⟨.string {data:=#[115,101,114,118,105,99,101]},.agg #[vs],2⟩] 0=some r∧(match r with|some (_,v)=>v|none=> .agg #[.slice none 0 0])=.agg #[il kind vt vb vs]∧r.isSome= !decide ((Pl.ai kind).length=0):=by
  unfold Pl.ai;simp only[Instr.findNow,Instr.sameNow,e1,e2,e3,il];cases (kind.toList==[116,101,97,109])<;>cases (kind.toList==[98,101,114,116,104])<;>cases (kind.toList==[115,101,114,118,105,99,101])<;>exact⟨_,rfl,rfl,by first|rfl|(simp only[Option.isSome];decide+kernel)⟩
 have hf:=ig W kind _ r hr;rw[← hk];cases r with
 |none=>
  simp only at hv;simp[Instr.lookup,run_underlying Tryz.ik,MapKept.run_getObj_map hb,dC,hf,hz,Result.andThen,hv]
 |some p=>
  obtain⟨j,v⟩:=p;simp only at hv;subst hv;simp[Instr.lookup,run_underlying Tryz.ik,MapKept.run_getObj_map hb,dC,hf,Result.andThen]
theorem mU (s:List Pl.Bl) (v:Value) (w:World) (h:Raw w bu [bD s] [v]) (hz:xm s):
  Calls Tryz.prog 7 #[.agg #[v]] w fun e w'=>e=.returned (.bool (Pl.bH s))∧Bel w w':=by
 have HL:=uh h;have HZ:=uh hz;obtain⟨va,vc,ev⟩:=h.bm;subst ev;obtain⟨R,hR⟩:∃ R,R=Pl.bH s:=⟨_,rfl⟩
 have HR:Hid (R=(decide (s.length≤60)&&(na s&&(List.range s.length).all fun i=>nE (s.getD i Pl.aN)))):=hR.trans (Dp s);rw[← hR];clear h hz hR;obtain⟨wa,aZ⟩:∃ wa,wa=w.alloc (.cells #[.slice va s.length vc] 25):=⟨_,rfl⟩
 obtain⟨b0,cd⟩:∃ b0,b0=w.heap.size:=⟨_,rfl⟩
 have HB:Hid (Bel w wa):=by show Below _ _ _;rw[aZ];exact ae zR _
 have ey:Hid (aS wa b0 [.slice va s.length vc]):=by show aS _ _ _;rw[aZ,cd];exact aS.new w #[.slice va s.length vc] _ _ rfl
 have z0:=ey.out.get 0 _ rfl;have zl:=ey.out.lt;have Js:=uh (JW s (.slice va s.length vc) wa (HL.out.later HB.out));go_enter Tryz.func7,Tryz.ntmps7
 go_upto_region 1 with fail
 rw[← aZ,← cd];clear aZ cd;by_cases BT:s.length≤60
 rotate_left
 ·have d0:((60:Int)<(s.length:Int)):=by omega
  have HE:Hid (R=false):=by show R=_;rw[HR.out,decide_eq_false BT];rfl
  go_wp2;go_ret;exact⟨Pl.aq HE.out.symm,HB.out⟩
 have d0:¬ ((60:Int)<(s.length:Int)):=by omega
 replace HR:Hid (R=(na s&&(List.range s.length).all fun i=>nE (s.getD i Pl.aN))):=by show R=_;rw[HR.out,decide_eq_true BT,Bool.true_and]
 obtain⟨ab,hab⟩:∃ ab,ab=na s:=⟨_,rfl⟩
 rw[← hab]at Js HR;clear hab;cases ab
 ·have HE:Hid (R=false):=HR.out;go_wp2_with (go_at_call 22;refine Js.out.mono ?_;rintro e w2 ⟨rfl,eD⟩)
  go_ret;exact⟨Pl.aq HE.out.symm,ah HB.out eD⟩
 replace HR:Hid (R=(List.range s.length).all fun i=>nE (s.getD i Pl.aN)):=HR.out
 have HC:=uh (fun W:World=>mW W);go_wp2_with fail
 refine Js.out.mono ?_;rintro e w2 ⟨rfl,eD⟩;replace HB:=uh (ah HB.out eD)
 replace ey:=uh (ey.out.later eD)
 clear z0 zl eD Js;go_wp2_with fail
 refine(HC.out _).mono ?_;rintro e w1 ⟨mb,w0,vt,vb,vs,rfl,hm,h0,k1,k2,k3,hb⟩;have Lv:Hid (∀ kind,∃ ra rc,il kind vt vb vs=.slice ra (Pl.ai kind).length rc∧Raw w1 [.row 96 aF] [cQ (Pl.ai kind)] [.slice ra (Pl.ai kind).length rc]):=fun kind=>by
  obtain⟨v,F,he,fc,_⟩:=uL (w:=w2) kind h0 k1 k2 k3 hb;injection he with he
  obtain⟨ra,rc,hv⟩:=fc.raw.bm;subst hv;exact⟨ra,rc,he,fc.raw⟩
 have HM:=uh hm;have fK:mb<w1.heap.size:=by
  by_cases q:mb<w1.heap.size
  ·exact q
  ·rw[Array.getElem?_eq_none (by omega)]at hm;cases hm
 have HML:=uh fK;replace HB:=uh (ah HB.out hb)
 replace ey:=uh (ey.out.later hb)
 have z0:=ey.out.get 0 _ rfl;have zl:=ey.out.lt;clear hm h0 k1 k2 k3 hb fK HC;go_wp2_with fail
 go_loopw [22] (fun i wr=>∃ k:Nat,k≤s.length∧i=.int .i64 k∧(List.range k).all (fun i=>nE (s.getD i Pl.aN))=true∧Bel w1 wr) (fun i _=>s.length - (intOf i).toNat)
 case atStart=>exact⟨0,zN,rfl,rfl,zR⟩
 case round=>
  obtain⟨k,hk,rfl,bs,hW⟩:=hrel;have EI:=uh bs;have HW:=uh hW;have Rn:=uh (ah HB.out hW);clear bs hW z0 zl;by_cases bd:k<s.length
  rotate_left
  ·obtain rfl:k=s.length:=by omega
   have HE:Hid (R=true):=by show R=_;rw[HR.out];exact EI.out
   go_wp2;go_ret;exact⟨Pl.aq HE.out.symm,Rn.out⟩
  rcases db (HL.out.later Rn.out) with⟨e0,_⟩|⟨p,o,c',hv,hp,_,aO⟩
  ·omega
  injection hv with g1 _ g3
  subst g1;subst g3;obtain⟨ax,cx,hg,fe⟩:=aO k bd;obtain⟨x,hx⟩:∃ x,x=s.getD k Pl.aN:=⟨_,rfl⟩
  rw[← hx]at hg fe;have x0:wr.cell? ⟨p,o+k*3,none⟩=some (.string x.kind):=aE hg 0 _ rfl;have x1:wr.cell? ⟨p,o+k*3+1,none⟩=some (.string x.name):=aE hg 1 _ rfl;have x2:wr.cell? ⟨p,o+k*3+2,none⟩=some (.slice ax x.lines.length cx):=aE hg 2 _ rfl;have ec:(0:Int)≤(k:Int):=by omega
  have dP:(k:Int)<(s.length:Int):=by omega
  have qa:Hid (x.name.size≤maxLen∧∀ y∈x.lines,∀ t∈y.ws,t.size≤maxLen):=by
   have e:s.getD k Pl.aN=s[k]:=by simp[bd]
   rw[hx,e];exact HZ.out _ (List.getElem_mem bd)
  have N1:=uh fe;have tC:Hid (nE x=false→R=false):=fun hq=>by rw[HR.out];exact Pl.fv bd (by rw[← hx];exact hq)
  have EE:Hid (nE x=true→(List.range (k+1)).all (fun i=>nE (s.getD i Pl.aN))=true):=fun hq=>Pl.eJ EI.out (by rw[← hx];exact hq);have JB:Hid (nE x=(!decide ((Pl.ai x.kind).length=0)&&Pl.aT x.name&&gY (Pl.ai x.kind) x.lines)):=rfl;clear aO hg fe hx;obtain⟨ra,rc,IA,sj⟩:=Lv.out x.kind;have gf:=uh (sj.later HW.out);clear sj;obtain⟨wb,jM⟩:∃ wb,wb=wr.alloc (.cells #[.string x.kind,.string x.name,.slice ax x.lines.length cx] 41):=⟨_,rfl⟩
  obtain⟨bl,eY⟩:∃ bl,bl=wr.heap.size:=⟨_,rfl⟩
  have zI:Hid (Bel wr wb):=by show Below _ _ _;rw[jM];exact ae zR _
  have wj:Hid (aS wb bl [.string x.kind,.string x.name,.slice ax x.lines.length cx]):=by show aS _ _ _;rw[jM,eY];exact aS.new wr #[.string x.kind,.string x.name,.slice ax x.lines.length cx] _ _ rfl
  go_upto_region 7 with fail
  rw[← jM,← eY];clear jM eY x0 x1 x2;have y0:=wj.out.get 0 _ rfl;have yl:=wj.out.lt;have tW:=pW (((zI.out.block _ (zL HML.out HW.out.size)).trans (HW.out.block _ HML.out)).trans HM.out) x.kind;rw[IA]at tW;obtain⟨l,Bq⟩:∃ l,l=Pl.ai x.kind:=⟨_,rfl⟩
  have je:Hid (l.length≤100):=by rw[Bq];exact Pl.fX _
  have OI:Hid (∀ r∈l,∀ z∈r.args,1≤z∧z≤6):=by rw[Bq];exact Pl.pC _
  rw[← Bq]at tW gf JB;obtain⟨kn,NU⟩:∃ kn,kn= !decide (l.length=0):=⟨_,rfl⟩
  rw[← NU]at tW JB;clear Bq IA NU;obtain⟨w3,gh⟩:∃ w3,w3=wb.alloc (.cells #[.slice ra l.length rc] 64):=⟨_,rfl⟩
  obtain⟨bk,KX⟩:∃ bk,bk=wb.heap.size:=⟨_,rfl⟩
  have tA:Hid (Bel wb w3):=by show Below _ _ _;rw[gh];exact ae zR _
  have tY:Hid (aS w3 bk [.slice ra l.length rc]):=by show aS _ _ _;rw[gh,KX];exact aS.new wb #[.slice ra l.length rc] _ _ rfl
  have Hv:=uh (ah zI.out tA.out);have Ld:=uh (wj.out.later tA.out);go_upto_region 8 with fail
  rw[← gh,← KX];clear gh KX y0 yl tW;have y1:=Ld.out.get 1 _ rfl;have y2:=Ld.out.get 2 _ rfl;have yl:=Ld.out.lt;have q0:=tY.out.get 0 _ rfl;have ql:=tY.out.lt;have BC:Hid (Bel w w3):=ah Rn.out Hv.out;have BN:=uh (fun W=>iY x.name W qa.out.1);have Sx:=uh (J5 l ra rc x.lines (.slice ax x.lines.length cx) w3 je.out OI.out (gf.out.later Hv.out) (N1.out.later Hv.out) qa.out.2);obtain⟨nm,yj⟩:∃ nm,nm=Pl.aT x.name:=⟨_,rfl⟩
  rw[← yj]at BN JB;obtain⟨ho,hho⟩:∃ ho,ho=gY l x.lines:=⟨_,rfl⟩
  rw[← hho]at Sx JB;clear yj hho;cases kn
  ·have HE:Hid (R=false):=tC.out JB.out;go_wp2;go_ret;exact⟨Pl.aq HE.out.symm,BC.out⟩
  ·cases nm
   ·have HE:Hid (R=false):=tC.out JB.out;go_wp2_with (go_at_call 25;refine(BN.out _).mono ?_;rintro e w' ⟨rfl,rfl⟩)
    go_ret;exact⟨Pl.aq HE.out.symm,BC.out⟩
   ·cases ho
    ·have HE:Hid (R=false):=tC.out JB.out;go_wp2_with (first|(go_at_call 25;refine(BN.out _).mono ?_;rintro e w' ⟨rfl,rfl⟩)|(go_at_call 26;refine Sx.out.mono ?_;rintro e w' ⟨rfl,jk⟩))
     go_ret;exact⟨Pl.aq HE.out.symm,ah BC.out jk⟩
    ·have HE:=uh (EE.out JB.out);go_wp2_with (first|(go_at_call 25;refine(BN.out _).mono ?_;rintro e w' ⟨rfl,rfl⟩)|(go_at_call 26;refine Sx.out.mono ?_;rintro e w' ⟨rfl,jk⟩))
     go_roundw
     case rel=>exact⟨k+1,by omega,by go_num,HE.out,ah HW.out (ah Hv.out jk)⟩
     case measure=>simp[intOf];omega
theorem uj (s:List Pl.Bl) (v:Value) (w:World) (h:Raw w bu [bD s] [v]) (hz:xm s) (_:wtL [bD s]≤1048576):
  Calls Tryz.prog 7 #[.agg #[v]] w fun e w'=>e=.returned (.bool (Pl.bH s))∧Bel w w':=mU s v w h hz
end Go.Proofs.YtopjjknojnfhmaaGreatDoor
