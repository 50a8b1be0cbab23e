import Derived.Test.YtmgibmmpopoboaaEPj
import Derived.Test.YtmgibmmpopoboaaELc
namespace Go.Proofs.Ytmgibmmpopoboaa
set_option maxRecDepth 8000
set_option maxHeartbeats 40000000
open Go.RowKit Go.Deep
theorem tV {W:World} {mb:Nat} {vt vb vs:Value} (hb:W.heap[mb]? =some (.map #[⟨.string {data:=#[116,101,97,109]},.agg #[vt],0⟩,⟨.string {data:=#[98,101,114,116,104]},.agg #[vb],1⟩,⟨.string {data:=#[115,101,114,118,105,99,101]},.agg #[vs],2⟩] 3)) (kind:ByteArray):
  (Instr.lookup 61 (.map (some mb)) (.string kind) true).run Try.prog W=.ok (.tuple #[.agg #[iF kind vt vb vs],.bool (!decide ((Pl.aj kind).length=0))]) W:=by
 have hz:(zeroValue 64).run Try.prog W=.ok (.agg #[.slice none 0 0]) W:=by kernel_rfl
 have e1:=ft kind [116,101,97,109] {data:=#[116,101,97,109]} (by decide+kernel);have e2:=ft kind [98,101,114,116,104] {data:=#[98,101,114,116,104]} (by decide+kernel);have e3:=ft kind [115,101,114,118,105,99,101] {data:=#[115,101,114,118,105,99,101]} (by decide+kernel);obtain⟨r,hr,hv,hk⟩:∃ r,Instr.findNow .string (.string kind) [⟨.string {data:=#[116,101,97,109]},.agg #[vt],0⟩,⟨.string {data:=#[98,101,114,116,104]},.agg #[vb],1⟩,⟨.string {data:=#[115,101,114,118,105,99,101]},.agg #[vs],2⟩] 0=some r∧(match r with|some (_,v)=>v|none=> .agg #[.slice none 0 0])=.agg #[iF kind vt vb vs]∧r.isSome= !decide ((Pl.aj kind).length=0):=by
  unfold Pl.aj;simp only[Instr.findNow,Instr.sameNow,e1,e2,e3,iF];cases (kind.toList==[116,101,97,109])<;>cases (kind.toList==[98,101,114,116,104])<;>cases (kind.toList==[115,101,114,118,105,99,101])<;>exact⟨_,rfl,rfl,by first|rfl|(simp only[Option.isSome];decide+kernel)⟩
 have hf:=gS W kind _ r hr;rw[← hk];cases r with
 |none=>
  simp only at hv;simp[Instr.lookup,run_underlying Try.g6,MapKept.run_getObj_map hb,dq,hf,hz,Result.andThen,hv]
 |some p=>
  obtain⟨j,v⟩:=p;simp only at hv;subst hv;simp[Instr.lookup,run_underlying Try.g6,MapKept.run_getObj_map hb,dq,hf,Result.andThen]
theorem mf (s:List Pl.Bl) (v:Value) (w:World) (h:Raw w aV [aW s] [v]) (hz:kr s):
  Calls Try.prog 11 #[.agg #[v]] w fun e w'=>e=.returned (.bool (Pl.aM s))∧Bel w w':=by
 have HL:=uh h;have HZ:=uh hz;obtain⟨va,vc,ev⟩:=h.aP;subst ev;obtain⟨R,hR⟩:∃ R,R=Pl.aM s:=⟨_,rfl⟩
 have HR:Hid (R=(decide (s.length≤60)&&(l8 s&&(List.range s.length).all fun i=>mB (s.getD i Pl.aG)))):=hR.trans (zV s);rw[← hR];clear h hz hR;obtain⟨wa,aS⟩:∃ wa,wa=w.alloc (.cells #[.slice va s.length vc] 25):=⟨_,rfl⟩
 obtain⟨b0,bD⟩:∃ b0,b0=w.heap.size:=⟨_,rfl⟩
 have HB:Hid (Bel w wa):=by show Below _ _ _;rw[aS];exact ah zR _
 have eA:Hid (aD wa b0 [.slice va s.length vc]):=by show aD _ _ _;rw[aS,bD];exact aD.new w #[.slice va s.length vc] _ _ rfl
 have z0:=eA.out.get 0 _ rfl;have zl:=eA.out.lt;have BW:=uh (Fl s (.slice va s.length vc) wa (HL.out.ae HB.out));go_enter Try.func11,Try.ntmps11
 go_upto_region 1 with fail
 rw[← aS,← bD];clear aS bD;by_cases J4:s.length≤60
 rotate_left
 ·have d0:((60:Int)<(s.length:Int)):=by omega
  have HE:Hid (R=false):=by show R=_;rw[HR.out,decide_eq_false J4];rfl
  go_wp2;go_ret;exact⟨Pl.aB HE.out.symm,HB.out⟩
 have d0:¬ ((60:Int)<(s.length:Int)):=by omega
 replace HR:Hid (R=(l8 s&&(List.range s.length).all fun i=>mB (s.getD i Pl.aG))):=by show R=_;rw[HR.out,decide_eq_true J4,Bool.true_and]
 obtain⟨ab,KQ⟩:∃ ab,ab=l8 s:=⟨_,rfl⟩
 rw[← KQ]at BW HR;clear KQ;cases ab
 ·have HE:Hid (R=false):=HR.out;go_wp2_with (go_at_call 31;refine BW.out.mono ?_;rintro e w2 ⟨rfl,dP⟩)
  go_ret;exact⟨Pl.aB HE.out.symm,ai HB.out dP⟩
 replace HR:Hid (R=(List.range s.length).all fun i=>mB (s.getD i Pl.aG)):=HR.out
 have HC:=uh (fun W:World=>gy W);go_wp2_with fail
 refine BW.out.mono ?_;rintro e w2 ⟨rfl,dP⟩;replace HB:=uh (ai HB.out dP)
 replace eA:=uh (eA.out.ae dP)
 clear z0 zl dP BW;go_wp2_with fail
 refine(HC.out _).mono ?_;rintro e w1 ⟨mb,w0,vt,vb,vs,rfl,hm,h0,k1,k2,k3,hb⟩;have KH:Hid (∀ kind,∃ ra rc,iF kind vt vb vs=.slice ra (Pl.aj kind).length rc∧Raw w1 [.row 40 aC] [bQ (Pl.aj kind)] [.slice ra (Pl.aj kind).length rc]):=fun kind=>by
  obtain⟨v,F,he,iC,_⟩:=kM (w:=w2) kind h0 k1 k2 k3 hb;injection he with he
  obtain⟨ra,rc,hv⟩:=iC.raw.aP;subst hv;exact⟨ra,rc,he,iC.raw⟩
 have HM:=uh hm;have ec:mb<w1.heap.size:=by
  by_cases q:mb<w1.heap.size
  ·exact q
  ·rw[Array.getElem?_eq_none (by omega)]at hm;cases hm
 have tk:=uh ec;replace HB:=uh (ai HB.out hb)
 replace eA:=uh (eA.out.ae hb)
 have z0:=eA.out.get 0 _ rfl;have zl:=eA.out.lt;clear hm h0 k1 k2 k3 hb ec HC;go_wp2_with fail
 go_loopw [22] (fun i wr=>∃ k:Nat,k≤s.length∧i=.int .i64 k∧(List.range k).all (fun i=>mB (s.getD i Pl.aG))=true∧Bel w1 wr) (fun i _=>s.length - (intOf i).toNat)
 case atStart=>exact⟨0,zN,rfl,rfl,zR⟩
 case round=>
  obtain⟨k,hk,rfl,bC,hW⟩:=hrel;have Ba:=uh bC;have HW:=uh hW;have My:=uh (ai HB.out hW);clear bC hW z0 zl;by_cases bN:k<s.length
  rotate_left
  ·obtain rfl:k=s.length:=by omega
   have HE:Hid (R=true):=by show R=_;rw[HR.out];exact Ba.out
   go_wp2;go_ret;exact⟨Pl.aB HE.out.symm,My.out⟩
  rcases cL (HL.out.ae My.out) with⟨e0,_⟩|⟨p,o,c',hv,hp,_,aZ⟩
  ·omega
  injection hv with g1 _ g3
  subst g1;subst g3;obtain⟨ax,cx,hg,dF⟩:=aZ k bN;obtain⟨x,hx⟩:∃ x,x=s.getD k Pl.aG:=⟨_,rfl⟩
  rw[← hx]at hg dF;have x0:wr.cell? ⟨p,o+k*3,none⟩=some (.string x.kind):=aF hg 0 _ rfl;have x1:wr.cell? ⟨p,o+k*3+1,none⟩=some (.string x.name):=aF hg 1 _ rfl;have x2:wr.cell? ⟨p,o+k*3+2,none⟩=some (.slice ax x.lines.length cx):=aF hg 2 _ rfl;have dd:(0:Int)≤(k:Int):=by omega
  have de:(k:Int)<(s.length:Int):=by omega
  have x6:Hid (x.name.size≤maxLen∧∀ y∈x.lines,∀ t∈y.ws,t.size≤maxLen):=by
   have e:s.getD k Pl.aG=s[k]:=by simp[bN]
   rw[hx,e];exact HZ.out _ (List.getElem_mem bN)
  have HXL:=uh dF;have qJ:Hid (mB x=false→R=false):=fun hq=>by rw[HR.out];exact Pl.eZ bN (by rw[← hx];exact hq)
  have BC:Hid (mB x=true→(List.range (k+1)).all (fun i=>mB (s.getD i Pl.aG))=true):=fun hq=>Pl.ep Ba.out (by rw[← hx];exact hq);have Ex:Hid (mB x=(!decide ((Pl.aj x.kind).length=0)&&Pl.cd x.name&&gL (Pl.aj x.kind) x.lines)):=rfl;clear aZ hg dF hx;obtain⟨ra,rc,Ke,kZ⟩:=KH.out x.kind;have ez:=uh (kZ.ae HW.out);clear kZ;obtain⟨wb,fP⟩:∃ wb,wb=wr.alloc (.cells #[.string x.kind,.string x.name,.slice ax x.lines.length cx] 32):=⟨_,rfl⟩
  obtain⟨bl,gM⟩:∃ bl,bl=wr.heap.size:=⟨_,rfl⟩
  have Gw:Hid (Bel wr wb):=by show Below _ _ _;rw[fP];exact ah zR _
  have Cd:Hid (aD wb bl [.string x.kind,.string x.name,.slice ax x.lines.length cx]):=by show aD _ _ _;rw[fP,gM];exact aD.new wr #[.string x.kind,.string x.name,.slice ax x.lines.length cx] _ _ rfl
  go_upto_region 7 with fail
  rw[← fP,← gM];clear fP gM x0 x1 x2;have y0:=Cd.out.get 0 _ rfl;have yl:=Cd.out.lt;have oE:=tV (((Gw.out.block _ (zL tk.out HW.out.size)).trans (HW.out.block _ tk.out)).trans HM.out) x.kind;rw[Ke]at oE;obtain⟨l,D2⟩:∃ l,l=Pl.aj x.kind:=⟨_,rfl⟩
  have lb:Hid (l.length≤100):=by rw[D2];exact Pl.cP _
  have L1:Hid (∀ r∈l,∀ z∈r.args,1≤z∧z≤6):=by rw[D2];exact Pl.uy _
  rw[← D2]at oE ez Ex;obtain⟨kn,I4⟩:∃ kn,kn= !decide (l.length=0):=⟨_,rfl⟩
  rw[← I4]at oE Ex;clear D2 Ke I4;obtain⟨w3,fy⟩:∃ w3,w3=wb.alloc (.cells #[.slice ra l.length rc] 64):=⟨_,rfl⟩
  obtain⟨bk,GV⟩:∃ bk,bk=wb.heap.size:=⟨_,rfl⟩
  have mg:Hid (Bel wb w3):=by show Below _ _ _;rw[fy];exact ah zR _
  have qI:Hid (aD w3 bk [.slice ra l.length rc]):=by show aD _ _ _;rw[fy,GV];exact aD.new wb #[.slice ra l.length rc] _ _ rfl
  have DN:=uh (ai Gw.out mg.out);have Hu:=uh (Cd.out.ae mg.out);go_upto_region 8 with fail
  rw[← fy,← GV];clear fy GV y0 yl oE;have y1:=Hu.out.get 1 _ rfl;have y2:=Hu.out.get 2 _ rfl;have yl:=Hu.out.lt;have q0:=qI.out.get 0 _ rfl;have ql:=qI.out.lt;have By:Hid (Bel w w3):=ai My.out DN.out;have Iw:=uh (fun W=>kt x.name W x6.out.1);have LU:=uh (FC l ra rc x.lines (.slice ax x.lines.length cx) w3 lb.out L1.out (ez.out.ae DN.out) (HXL.out.ae DN.out) x6.out.2);obtain⟨nm,vJ⟩:∃ nm,nm=Pl.cd x.name:=⟨_,rfl⟩
  rw[← vJ]at Iw Ex;obtain⟨ho,hho⟩:∃ ho,ho=gL l x.lines:=⟨_,rfl⟩
  rw[← hho]at LU Ex;clear vJ hho;cases kn
  ·have HE:Hid (R=false):=qJ.out Ex.out;go_wp2;go_ret;exact⟨Pl.aB HE.out.symm,By.out⟩
  ·cases nm
   ·have HE:Hid (R=false):=qJ.out Ex.out;go_wp2_with (go_at_call 34;refine(Iw.out _).mono ?_;rintro e w' ⟨rfl,rfl⟩)
    go_ret;exact⟨Pl.aB HE.out.symm,By.out⟩
   ·cases ho
    ·have HE:Hid (R=false):=qJ.out Ex.out;go_wp2_with (first|(go_at_call 34;refine(Iw.out _).mono ?_;rintro e w' ⟨rfl,rfl⟩)|(go_at_call 35;refine LU.out.mono ?_;rintro e w' ⟨rfl,Be⟩))
     go_ret;exact⟨Pl.aB HE.out.symm,ai By.out Be⟩
    ·have HE:=uh (BC.out Ex.out);go_wp2_with (first|(go_at_call 34;refine(Iw.out _).mono ?_;rintro e w' ⟨rfl,rfl⟩)|(go_at_call 35;refine LU.out.mono ?_;rintro e w' ⟨rfl,Be⟩))
     go_roundw
     case rel=>exact⟨k+1,by omega,by go_num,HE.out,ai HW.out (ai DN.out Be)⟩
     case measure=>simp[intOf];omega
theorem gE (s:List Pl.Bl) (v:Value) (w:World) (h:Raw w aV [aW s] [v]) (hz:kr s) (_:wtL [aW s]≤1048576):
  Calls Try.prog 11 #[.agg #[v]] w fun e w'=>e=.returned (.bool (Pl.aM s))∧Bel w w':=mf s v w h hz
end Go.Proofs.Ytmgibmmpopoboaa
