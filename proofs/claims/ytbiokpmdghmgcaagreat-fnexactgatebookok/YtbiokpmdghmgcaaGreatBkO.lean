import Derived.Deep.DeepCutAuto
import Derived.Test.YtbiokpmdghmgcaaGreatBkT
import Derived.Test.YtbiokpmdghmgcaaGreatShR
namespace Go.Proofs.YtbiokpmdghmgcaaGreat
set_option maxRecDepth 8000
set_option maxHeartbeats 40000000
open Go.RowKit Go.Deep
def iK (ss:List Shp) (o:Ob):Bool:=aP ss o&&Pl.aq o.name&&Pl.aq o.team&&decide (o.holds.length≤3)&&Pl.asc o.holds&&(decide (0≤o.version)&&decide (o.version≤1000000))
theorem oK (ss:List Shp) (o:Ob):iK ss o=(aJ ss o.kind&&(dN o&&decide (o.values.length=(ss.getD (aB ss o.kind) Shp.none).fields.length)&&dL o&&bz o)):=by
 unfold iK aP dN dL bz;cases aJ ss o.kind<;>cases Pl.aq o.name<;>cases Pl.aq o.team<;>cases decide (o.values.length=(ss.getD (aB ss o.kind) Shp.none).fields.length)<;>cases decide (o.holds.length≤3)<;>cases Pl.asc o.holds<;>cases decide (0≤o.version)<;>cases decide (o.version≤1000000)<;>rfl
theorem DV {ss:List Shp} {o:Ob} (gJ:aM ss=true) (h:iK ss o=false):jc ss o=1∧iO ss o=0:=by
 rw[oK]at h;unfold jc iO dk dF;rw[gJ];cases hk:aJ ss o.kind
 ·simp
 ·rw[hk]at h;rw[Bool.true_and]at h;rw[h];simp
theorem Bu {ss:List Shp} {o:Ob} (gJ:aM ss=true) (h:iK ss o=true):jc ss o=dt (ss.getD (aB ss o.kind) Shp.none).fields o.values∧iO ss o=(if dt (ss.getD (aB ss o.kind) Shp.none).fields o.values=0 then 0 else eT (ss.getD (aB ss o.kind) Shp.none).fields o.values):=by
 rw[oK]at h;obtain⟨h1,h2⟩:=(Bool.and_eq_true _ _).mp h;unfold jc iO dk dF;rw[gJ,h1,h2];simp
theorem rW (B:Nat) (ss:List Shp) (o:Ob) (b1 c1 b2 c2:Nat) (w:World) (gJ:aM ss=true) (h:bd w B ss) (ho:iW w b1 b2 o) (hs:o.sized) (jq:∀ i,i<o.values.length→(o.values.getD i ByteArray.empty).size≤maxLen) (gR:∀ i,i<o.holds.length→(o.holds.getD i ByteArray.empty).size≤maxLen):
  Calls Tryz.prog 61 #[.slice (some ⟨B,0,none⟩) ss.length ss.length,.agg #[.string o.kind,.string o.name,.string o.team,.slice (some ⟨b1,0,none⟩) o.values.length c1,.bool o.ending,.slice (some ⟨b2,0,none⟩) o.holds.length c2,.int .i64 o.version]] w fun e w'=>e=.returned (.tuple #[.int .i64 (jc ss o:Nat),.int .i64 (iO ss o:Nat)])∧Bel w w':=by
 have HA:=hid (And.intro gJ (And.intro h (And.intro ho (And.intro hs (And.intro jq gR)))));have hlv:=ho.len1;have hlh:=ho.len2;clear gJ h ho hs jq gR;obtain⟨w1,dW⟩:∃ w1,w1=w.alloc (.cells #[.string o.kind,.string o.name,.string o.team,.slice (some ⟨b1,0,none⟩) o.values.length c1,.bool o.ending,.slice (some ⟨b2,0,none⟩) o.holds.length c2,.int .i64 o.version] 111):=⟨_,rfl⟩
 have HB:Hid (Bel w w1):=by show Below _ _ _;rw[dW];exact ab br _
 have HZ:Hid (w1.heap.size=w.heap.size+1):=by show _=_;rw[dW];simp
 have HK:Hid (w1.cell? ⟨w.heap.size,0,none⟩=some (.string o.kind)∧w1.cell? ⟨w.heap.size,1,none⟩=some (.string o.name)∧w1.cell? ⟨w.heap.size,2,none⟩=some (.string o.team)∧w1.cell? ⟨w.heap.size,3,none⟩=some (.slice (some ⟨b1,0,none⟩) o.values.length c1)∧w1.cell? ⟨w.heap.size,4,none⟩=some (.bool o.ending)∧w1.cell? ⟨w.heap.size,5,none⟩=some (.slice (some ⟨b2,0,none⟩) o.holds.length c2)∧w1.cell? ⟨w.heap.size,6,none⟩=some (.int .i64 o.version)):=by
  refine⟨?_, ?_, ?_, ?_, ?_, ?_, ?_⟩<;>(rw[dW];simp)
 obtain⟨k0,k1,k2,k3,k4,k5,k6⟩:=HK.out;have hz:w.heap.size<w1.heap.size:=by have:=HZ.out;omega
 obtain⟨cc,oV⟩:∃ cc,cc=jc ss o:=⟨_,rfl⟩
 obtain⟨cp,mx⟩:∃ cp,cp=iO ss o:=⟨_,rfl⟩
 rw[← oV,← mx];have HC:=hid (And.intro oV mx);clear oV mx;go_enter Tryz.func61,Tryz.ntmps61
 go_upto_region 1 with fail
 rw[← dW];clear dW;go_wp2_with fail
 refine(jg w B ss o _ _ _ _ w1 HA.out.2.1 HB.out).mono ?_;rintro e w2 ⟨a,n,c,rfl,kD,aA⟩;have jU:=hid aA;have LS:=hid (aa HB.out aA);have gR:=lo hz aA.size;have o1:=(aA.cell (p:=⟨w.heap.size,1,none⟩) hz).trans k1;have o2:=(aA.cell (p:=⟨w.heap.size,2,none⟩) hz).trans k2;have o3:=(aA.cell (p:=⟨w.heap.size,3,none⟩) hz).trans k3;have o5:=(aA.cell (p:=⟨w.heap.size,5,none⟩) hz).trans k5;have o6:=(aA.cell (p:=⟨w.heap.size,6,none⟩) hz).trans k6;have JY:=hid o3;obtain⟨R,hR⟩:∃ R,R=aP ss o:=⟨_,rfl⟩
 rw[← hR]at kD ⊢;have mW:=hid kD;have HR:=hid hR;clear aA kD hR k0 k1 k2 k3 k4 k5 k6 hz o3;go_upto_region 2 with fail
 go_cut [46] (fun x wx=>x=.bool (!iK ss o)∧Bel w2 wx)
 case first=>
  have HT:Hid (iK ss o=(R&&Pl.aq o.name&&Pl.aq o.team&&decide (o.holds.length≤3)&&Pl.asc o.holds&&(decide (0≤o.version)&&decide (o.version≤1000000)))):=by rw[HR.out];rfl
  have HN1:=hid (And.intro HA.out.2.2.2.1.2.1 HA.out.2.2.2.1.2.2);have HAs:=hid (mu b2 c2 o.holds w2 HA.out.2.2.1.len2 (HA.out.2.2.1.later LS.out).lt2 HA.out.2.2.2.2.2 (fun i hi=>by rw[Nat.zero_add];exact(HA.out.2.2.1.later LS.out).at2 i hi));cases R
  ·go_wp2_with fail
   go_meet
   exact⟨by rw[HT.out];rfl,br⟩
  go_wp2_with fail
  refine(aH o.name _ HN1.out.1).mono ?_;rintro e w' ⟨rfl,rfl⟩;cases h1:Pl.aq o.name
  ·go_wp2_with fail
   go_meet
   exact⟨by rw[HT.out,h1];rfl,br⟩
  go_wp2_with fail
  refine(aH o.team _ HN1.out.2).mono ?_;rintro e w' ⟨rfl,rfl⟩;cases h2:Pl.aq o.team
  ·go_wp2_with fail
   go_meet
   exact⟨by rw[HT.out,h1,h2];rfl,br⟩
  by_cases h3:(o.holds.length:Int)≤3
  case neg=>
   have HD:Hid (decide (o.holds.length≤3)=false):=by show decide _=false;simp;omega
   go_wp2_with fail
   go_meet
   exact⟨by rw[HT.out,h1,h2,HD.out];rfl,br⟩
  have HD:Hid (decide (o.holds.length≤3)=true):=by show decide _=true;simp;omega
  have HD3:Hid (decide ((3:Int)<(o.holds.length:Int))=false):=by show decide _=false;simp;omega
  go_wp2_with fail
  refine HAs.out.mono ?_;rintro e w3 ⟨rfl,aQ⟩;have p6:=(aQ.cell (p:=⟨w.heap.size,6,none⟩) gR).trans o6;have vN:=lo gR aQ.size;cases h4:Pl.asc o.holds
  ·go_wp2_with fail
   go_meet
   exact⟨by rw[HT.out,h1,h2,HD.out,h4];rfl,aQ⟩
  go_wp2_with fail
  refine(bb o.version 0 1000000 _).mono ?_;rintro e w' ⟨rfl,rfl⟩;obtain⟨q,hq⟩:∃ q,q=(decide (0≤o.version)&&decide (o.version≤1000000)):=⟨_,rfl⟩
  rw[← hq]at HT ⊢;clear hq;go_wp2_with fail
  go_meet
  exact⟨by rw[HT.out,h1,h2,HD.out,h4,HD3.out];cases q<;>rfl,aQ⟩
 case rest=>
 obtain⟨rfl,Gl⟩:=hcut;rename World=>w3;have gq:=hid Gl;have HW3:=hid (aa LS.out Gl);clear Gl o1 o2 o5 o6;cases hg:iK ss o
 ·have HE:=DV HA.out.1 hg;have oV:cc=1:=by rw[HC.out.1];exact HE.1
  have mx:cp=0:=by rw[HC.out.2];exact HE.2
  subst oV mx;clear HE;go_wp2;go_ret2;exact⟨rfl,HW3.out⟩
 have HE:Hid (cc=dt (ss.getD (aB ss o.kind) Shp.none).fields o.values∧cp=(if dt (ss.getD (aB ss o.kind) Shp.none).fields o.values=0 then 0 else eT (ss.getD (aB ss o.kind) Shp.none).fields o.values)):=by show _∧_;rw[HC.out.1,HC.out.2];exact Bu HA.out.1 hg
 have KJ:R=true:=by rw[HR.out];rw[iK]at hg;simp only[Bool.and_eq_true]at hg;exact hg.1.1.1.1.1
 obtain⟨b,e2,gK,dV⟩:=mW.out KJ;have Hs:=HR.out.symm.trans KJ;have sZ:aB ss o.kind<ss.length:=by unfold aP aJ at Hs;exact of_decide_eq_true ((Bool.and_eq_true _ _).mp Hs).1
 have hlen:o.values.length=(ss.getD (aB ss o.kind) Shp.none).fields.length:=by unfold aP at Hs;exact of_decide_eq_true ((Bool.and_eq_true _ _).mp Hs).2
 obtain⟨s,hs⟩:∃ s,s=ss.getD (aB ss o.kind) Shp.none:=⟨_,rfl⟩
 rw[← hs]at e2 dV HE hlen;injection e2 with e2 e3 e4
 subst e2 e3 e4;have dO:s.small:=HA.out.2.1.small s (by rw[hs];simp[sZ]);obtain⟨fs,E0⟩:∃ fs,fs=s.fields:=⟨_,rfl⟩
 have iZ:=dO.1;have qZ:Hid (bW w b fs):=by rw[E0];exact⟨gK,dO.1,dO.2,dV⟩
 rw[← E0]at HE hlen iZ ⊢;have HLn:=hid hlen;clear hs dO dV gK sZ mW HC hg Hs E0 hlen KJ;go_wp2;go_loopw [8] (fun i wr=>∃ k:Nat,k≤fs.length∧i=.int .i64 k∧k≤dn fs o.values∧Bel w3 wr) (fun i _=>fs.length - (intOf i).toNat)
 case atStart=>exact⟨0,nz,rfl,nz,br⟩
 case round=>
  obtain⟨k,hk,rfl,iH,hW⟩:=hrel;have HN:=hid iH;have HW:=hid hW;have lZ:=hid (aa HW3.out hW);clear iH;by_cases aw:k<fs.length
  ·obtain⟨f,fG⟩:∃ f,f=fs.getD k Fld.none:=⟨_,rfl⟩
   obtain⟨bf,pz,dP⟩:=(qZ.out.later lZ.out).arg aw fG;have Fs:k<o.values.length:=by rw[HLn.out];exact aw
   have v0:=(HA.out.2.2.1.later lZ.out).at1 k Fs;obtain⟨v,hv⟩:∃ v,v=o.values.getD k ByteArray.empty:=⟨_,rfl⟩
   rw[← hv]at v0;have HV:Hid (v.size≤maxLen):=by show v.size≤maxLen;rw[hv];exact HA.out.2.2.2.2.1 k Fs
   have ea:Hid (iV fs o.values k=if v.toList.isEmpty=true then (if f.must=true then 2 else 0) else (if dA f v=true then 0 else 3)):=by show iV fs o.values k=_;unfold iV;rw[← fG,← hv]
   have HM:Hid (iV fs o.values k=0→k+1≤dn fs o.values):=fun e=>kK aw HN.out e;have HH:Hid (∀ d:Nat,d≠0→iV fs o.values k=d→cc=d∧cp=k):=by
    intro d hd e;have e1:=lT aw HN.out (by rw[e];exact hd);rw[HE.out.1,HE.out.2];unfold dt eT;rw[e1,if_pos aw,if_pos aw,e,if_neg hd];exact⟨rfl,rfl⟩
   have bj:=(HA.out.2.2.1.later lZ.out).lt1;have I4:=(qZ.out.later lZ.out).lt;have I9:=lo gR (aa gq.out hW).size;have k3:=((aa gq.out hW).cell (p:=⟨w.heap.size,3,none⟩) gR).trans JY.out;obtain⟨c0,c1',FA,c3,c4,c5,c6,c7,c8,c9,c10,_,_⟩:=dP;have FX:=hid pz;clear fG pz hv hW;cases he:v.toList.isEmpty
   ·have HX:=hid fun (W:World) (lX:Bel wr W)=>mo f bf v W HV.out (FX.out.later lX);cases hfit:dA f v
    ·obtain⟨oV,mx⟩:=HH.out 3 (by decide) (by rw[ea.out,he,hfit];rfl);subst oV mx;rw[hfit]at HX;go_wp2_with fail
     go_region_with (go_at_call 120;refine(HX.out _ ?_).mono ?_;(repeat(first|exact br|refine Below.drew ?_));rintro e w4 ⟨rfl,cq⟩)
     all_goals
      go_wp2;go_ret2;refine⟨rfl, ?_⟩;repeat(first|exact aa lZ.out cq|exact aa lZ.out.drew cq|exact aa lZ.out.drew.drew cq|refine Below.drew ?_)
    ·have AG:=hid (HM.out (by rw[ea.out,he,hfit];rfl));rw[hfit]at HX;go_wp2_with fail
     go_region_with (go_at_call 120;refine(HX.out _ ?_).mono ?_;(repeat(first|exact br|refine Below.drew ?_));rintro e w4 ⟨rfl,cq⟩)
     all_goals
      go_wp2;go_roundw
      case rel=>
       first
       |refine⟨k+1,by omega,by go_num,AG.out, ?_⟩
       |((repeat apply Exists.intro);refine⟨⟨k+1,by omega,by go_num,AG.out, ?_⟩,rfl⟩)
       repeat(first|exact aa HW.out cq|exact aa HW.out.drew cq|exact aa HW.out.drew.drew cq|refine Below.drew ?_)
      case measure=>simp[intOf];omega
   ·cases hmu:f.must
    ·have AG:=hid (HM.out (by rw[ea.out,he,hmu];rfl));go_wp2;go_roundw
     case rel=>first|exact⟨k+1,by omega,by go_num,AG.out,HW.out⟩|((repeat apply Exists.intro);exact⟨⟨k+1,by omega,by go_num,AG.out,HW.out⟩,rfl⟩)
     case measure=>simp[intOf];omega
    ·obtain⟨oV,mx⟩:=HH.out 2 (by decide) (by rw[ea.out,he,hmu];rfl);subst oV mx;go_wp2;go_ret2;exact⟨rfl,lZ.out⟩
  ·have e0:dt fs o.values=0:=by unfold dt;rw[if_neg (by have:=HN.out;omega)]
   have oV:cc=0:=by rw[HE.out.1];exact e0
   have mx:cp=0:=by rw[HE.out.2,e0];rfl
   subst oV mx;go_wp2;go_ret2;exact⟨rfl,lZ.out⟩
set_option maxRecDepth 8000
set_option maxHeartbeats 40000000
open Go.RowKit Go.Deep
def eR (L:Lw) (K:Bk) (i:Nat):Bool:=cD (fun j=>pB (K.objects.getD j Ob.none) (K.objects.getD (j+1) Ob.none)) i&&cy L K i
theorem tn (L:Lw) (K:Bk):ec L K=(decide (K.objects.length≤40)&&aD (eR L K) K.objects.length):=by
 have e:aD (eR L K) K.objects.length=(jh K.objects&&aD (cy L K) K.objects.length):=by
  unfold eR;rw[hQ,iA];rfl
 rw[e];unfold ec;cases decide (K.objects.length≤40)<;>rfl
theorem vq (L:Lw) (o:Ob) (gJ:aM L.shapes=true):(decide (jc L.shapes o=0))=(aJ L.shapes o.kind&&decide (dk (fieldsOf L o) o=0)):=by
 unfold jc fieldsOf;rw[gJ];cases aJ L.shapes o.kind<;>simp
theorem od {fs:List Fld} {o:Ob} (h:dk fs o=0):o.values.length=fs.length:=by
 unfold dk at h;split at h
 ·rename_i hh
  simp only[Bool.and_eq_true,decide_eq_true_eq]at hh;exact hh.1.1.2
 ·cases h
theorem ud (L:Lw) (K:Bk) (a0 a1 a2 e0 e1 e2 e3:Nat) (w:World) (hL:iy w a0 a1 a2 L) (hK:gp w e0 e1 e2 e3 K) (kD:aM L.shapes=true) (DF:aO L.shapes L.mends=true):
  Calls Tryz.prog 26 #[.agg #[.slice (some ⟨a0,0,none⟩) L.shapes.length L.shapes.length,.slice (some ⟨a1,0,none⟩) L.mends.length L.mends.length,.slice (some ⟨a2,0,none⟩) L.teams.length L.teams.length],.agg #[.int .i64 K.now,.int .i64 K.tick,.int .i64 K.given,.slice (some ⟨e0,0,none⟩) K.objects.length K.objects.length,.slice (some ⟨e1,0,none⟩) K.grants.length K.grants.length,.slice (some ⟨e2,0,none⟩) K.ledgers.length K.ledgers.length,.slice (some ⟨e3,0,none⟩) K.purses.length K.purses.length]] w fun e w'=>e=.returned (.bool (ec L K))∧Bel w w':=by
 have HA:=hid (And.intro hL (And.intro hK (And.intro kD DF)));have hl:=hK.o.len;rw[tn];obtain⟨R,hR⟩:∃ R,R=(decide (K.objects.length≤40)&&aD (eR L K) K.objects.length):=⟨_,rfl⟩
 have HR:=hid hR;rw[← hR];clear hK hL hR kD DF;obtain⟨w1,dW⟩:∃ w1,w1=(w.alloc (.cells #[.slice (some ⟨a0,0,none⟩) L.shapes.length L.shapes.length,.slice (some ⟨a1,0,none⟩) L.mends.length L.mends.length,.slice (some ⟨a2,0,none⟩) L.teams.length L.teams.length] 40)).alloc (.cells #[.int .i64 K.now,.int .i64 K.tick,.int .i64 K.given,.slice (some ⟨e0,0,none⟩) K.objects.length K.objects.length,.slice (some ⟨e1,0,none⟩) K.grants.length K.grants.length,.slice (some ⟨e2,0,none⟩) K.ledgers.length K.ledgers.length,.slice (some ⟨e3,0,none⟩) K.purses.length K.purses.length] 47):=⟨_,rfl⟩
 have cN:Hid (Bel w w1):=by show Below _ _ _;rw[dW];exact ab (ab br _) _
 have dD:Hid (∀ W,Bel w1 W→bm W (w.heap.size+1) (.int .i64 K.now) (.int .i64 K.tick) (.int .i64 K.given) (.slice (some ⟨e0,0,none⟩) K.objects.length K.objects.length) (.slice (some ⟨e1,0,none⟩) K.grants.length K.grants.length) (.slice (some ⟨e2,0,none⟩) K.ledgers.length K.ledgers.length) (.slice (some ⟨e3,0,none⟩) K.purses.length K.purses.length)∧ch W w.heap.size (.slice (some ⟨a0,0,none⟩) L.shapes.length L.shapes.length) (.slice (some ⟨a1,0,none⟩) L.mends.length L.mends.length) (.slice (some ⟨a2,0,none⟩) L.teams.length L.teams.length)):=by
  have q:bm w1 (w.heap.size+1) (.int .i64 K.now) (.int .i64 K.tick) (.int .i64 K.given) (.slice (some ⟨e0,0,none⟩) K.objects.length K.objects.length) (.slice (some ⟨e1,0,none⟩) K.grants.length K.grants.length) (.slice (some ⟨e2,0,none⟩) K.ledgers.length K.ledgers.length) (.slice (some ⟨e3,0,none⟩) K.purses.length K.purses.length)∧ch w1 w.heap.size (.slice (some ⟨a0,0,none⟩) L.shapes.length L.shapes.length) (.slice (some ⟨a1,0,none⟩) L.mends.length L.mends.length) (.slice (some ⟨a2,0,none⟩) L.teams.length L.teams.length):=by rw[dW];exact⟨bm.bV _ _ _ _ _ _ _ _ _ _ (by simp),(ch.bV w _ _ _ _ _ rfl).ek _⟩
  intro W hW;exact⟨q.1.later hW,q.2.later hW⟩
 go_enter Tryz.func26,Tryz.ntmps26
 go_upto_region 1 with fail
 rw[← dW];clear dW;obtain⟨aR,_⟩:=dD.out w1 br;obtain⟨yz,y0,y1,y2,y3,y4,y5,y6⟩:=aR;by_cases Dx:K.objects.length≤40
 ·have l3:Hid (R=aD (eR L K) K.objects.length):=by show R=_;rw[HR.out];simp[Dx]
  go_wp2;clear yz y0 y1 y2 y3 y4 y5 y6 Dx;go_loopw [5] (fun i wr=>∃ q:Nat,q≤K.objects.length∧i=.int .i64 q∧aD (eR L K) q=true∧Bel w1 wr) (fun i _=>K.objects.length - (intOf i).toNat)
  case atStart=>exact⟨0,nz,rfl,rfl,br⟩
  case round=>
   obtain⟨q,hq,rfl,ha,hW⟩:=hrel;have HQ:=hid ha;have fu:=hid (aa cN.out hW);clear ha;by_cases aw:q<K.objects.length
   ·by_cases h0:q=0
    ·subst h0;obtain⟨x,hx⟩:∃ x,x=K.objects.getD (0) Ob.none:=⟨_,rfl⟩
     have bC:=(HA.out.2.1.later fu.out).o;have gx:=bC.lt;have eb:=bC.at_ (0) aw;rw[← hx]at eb;obtain⟨b1,b2,_,c0,c1,c2,c3,c4,c5,c6,sR⟩:=eb;obtain⟨w4,ej⟩:∃ w4,w4=wr.alloc (.cells #[.string x.kind,.string x.name,.string x.team,.slice (some ⟨b1,0,none⟩) x.values.length x.values.length,.bool x.ending,.slice (some ⟨b2,0,none⟩) x.holds.length x.holds.length,.int .i64 x.version] 111):=⟨_,rfl⟩
     obtain⟨E,hE⟩:∃ E,E=wr.heap.size:=⟨_,rfl⟩
     have dC:Bel wr w4:=by rw[ej];exact ab br _
     have je:=hid (aa hW dC);have aY:=hid (aa fu.out dC);have kB:Hid (∀ W,Bel w4 W→kH W b1 b2 x):=fun W bG=>(sR.later dC).later bG;have oR:Hid (∀ W,Bel w4 W→(bm W (w.heap.size+1) (.int .i64 K.now) (.int .i64 K.tick) (.int .i64 K.given) (.slice (some ⟨e0,0,none⟩) K.objects.length K.objects.length) (.slice (some ⟨e1,0,none⟩) K.grants.length K.grants.length) (.slice (some ⟨e2,0,none⟩) K.ledgers.length K.ledgers.length) (.slice (some ⟨e3,0,none⟩) K.purses.length K.purses.length)∧ch W w.heap.size (.slice (some ⟨a0,0,none⟩) L.shapes.length L.shapes.length) (.slice (some ⟨a1,0,none⟩) L.mends.length L.mends.length) (.slice (some ⟨a2,0,none⟩) L.teams.length L.teams.length))∧aT W E #[.string x.kind,.string x.name,.string x.team,.slice (some ⟨b1,0,none⟩) x.values.length x.values.length,.bool x.ending,.slice (some ⟨b2,0,none⟩) x.holds.length x.holds.length,.int .i64 x.version]):=fun W bG=>⟨dD.out W (aa je.out bG),aT.later (by rw[ej];exact aT.bV _ _ _ _ hE) bG⟩
     have Dn:Hid (∀ W,Bel w4 W→e0<W.heap.size):=fun W bG=>lo gx (aa dC bG).size;obtain⟨cc,oV⟩:∃ cc,cc=jc L.shapes x:=⟨_,rfl⟩
     obtain⟨cp,mx⟩:∃ cp,cp=iO L.shapes x:=⟨_,rfl⟩
     have Fv:Hid (∀ W,Bel w4 W→Calls Tryz.prog 61 #[.slice (some ⟨a0,0,none⟩) L.shapes.length L.shapes.length,.agg #[.string x.kind,.string x.name,.string x.team,.slice (some ⟨b1,0,none⟩) x.values.length x.values.length,.bool x.ending,.slice (some ⟨b2,0,none⟩) x.holds.length x.holds.length,.int .i64 x.version]] W fun e w'=>e=.returned (.tuple #[.int .i64 (cc:Nat),.int .i64 (cp:Nat)])∧Bel W w'):=fun W bG=>by
      rw[oV,mx];have ft:=aa aY.out bG;exact rW a0 L.shapes x b1 _ b2 _ W HA.out.2.2.1 (HA.out.1.later ft).s (kB.out W bG).arg (kB.out W bG).sized (kB.out W bG).z1 (kB.out W bG).z2
     have IJ:Hid (decide (cc=0)=(aJ L.shapes x.kind&&decide (dk (fieldsOf L x) x=0))):=by rw[oV];exact vq L x HA.out.2.2.1
     clear oV mx;obtain⟨t1,xZ⟩:∃ t1,t1=(bA L.teams x.team):=⟨_,rfl⟩
     have Fi:Hid (∀ W,Bel w4 W→Calls Tryz.prog 62 #[.slice (some ⟨a2,0,none⟩) L.teams.length L.teams.length,.string x.team] W fun e w'=>e=.returned (.bool t1)∧W=w'):=fun W bG=>by
      rw[xZ];have ft:=aa aY.out bG;exact iu a2 L.teams x.team W (HA.out.1.later ft).t
     obtain⟨t3,A4⟩:∃ t3,t3=(within x.version 1 K.now):=⟨_,rfl⟩
     have EZ:Hid (∀ W,Bel w4 W→Calls Tryz.prog 25 #[.int .i64 x.version,.int .i64 1,.int .i64 K.now] W fun e w'=>e=.returned (.bool t3)∧W=w'):=fun W bG=>by
      rw[A4];have ft:=aa aY.out bG;exact bb _ _ _ W
     obtain⟨sv,vO⟩:∃ sv,sv=bL L.shapes L.mends x:=⟨_,rfl⟩
     have AV:Hid (∀ W,Bel w4 W→Calls Tryz.prog 65 #[.slice (some ⟨a0,0,none⟩) L.shapes.length L.shapes.length,.slice (some ⟨a1,0,none⟩) L.mends.length L.mends.length,.agg #[.string x.kind,.string x.name,.string x.team,.slice (some ⟨b1,0,none⟩) x.values.length x.values.length,.bool x.ending,.slice (some ⟨b2,0,none⟩) x.holds.length x.holds.length,.int .i64 x.version]] W fun e w'=>∃ v0 v1 v2 g1 n1 f1 v4 v5 v6,e=.returned (.agg #[v0,v1,v2,.slice g1 n1 f1,v4,v5,v6])∧(n1=sv.length∧TxG w' g1 f1 sv)∧Bel W w'):=fun W bG=>by
      have ft:=aa aY.out bG;refine(pI a0 a1 L.shapes L.mends x _ _ _ _ W (HA.out.1.later ft).s (HA.out.1.later ft).m HA.out.2.2.2 ((kB.out W bG).arg.g _ _)).mono ?_;rintro e w' ⟨⟨g1,n1,f1,g2,n2,f2,mid,rfl,h1,_,_,_⟩,hb⟩;rw[← vO]at h1;exact⟨_,_,_,_,_,_,_,_,_,rfl,h1.g,hb⟩
     have Bp:Hid (sv.length≤1048576∧x.values.length≤1048576):=by
      have:=(kB.out w4 br).arg.len1;refine⟨?_,this⟩;rw[vO,i5];exact this
     obtain⟨sm,dO⟩:∃ sm,sm=dZ sv x.values:=⟨_,rfl⟩
     have Ay:Hid (∀ W (g1:Option Addr) (n1 f1:Nat),Bel w4 W→(n1=sv.length∧TxG W g1 f1 sv)→Calls Tryz.prog 64 #[.slice g1 n1 f1,.slice (some ⟨b1,0,none⟩) x.values.length x.values.length] W fun e w'=>e=.returned (.bool sm)∧Bel W w'):=fun W g1 n1 f1 bG hg=>by
      rw[dO];exact Di g1 n1 f1 b1 _ sv x.values W Bp.out.1 Bp.out.2 hg.1 hg.2 (kB.out W bG).arg.lt1 (kB.out W bG).arg.at1
     have HP:Hid (eR L K (0)=(true&&(decide (cc=0)&&t1&&t3&&sm&&aD (cF K (fieldsOf L x) x.values) (fieldsOf L x).length))):=by
      show (cD _ (0)&&cy L K (0))=_;unfold cy gF;rw[IJ.out,← hx,← vO,← dO,← xZ,← A4];show (true&&_)=_;rfl
     have HF:Hid ((true&&(decide (cc=0)&&t1&&t3&&sm&&aD (cF K (fieldsOf L x) x.values) (fieldsOf L x).length))=false→R=false):=fun hh=>by rw[l3.out];exact ba aw (HP.out.trans hh)
     have HT:Hid ((true&&(decide (cc=0)&&t1&&t3&&sm&&aD (cF K (fieldsOf L x) x.values) (fieldsOf L x).length))=true→aD (eR L K) (0+1)=true):=fun hh=>aU HQ.out (HP.out.trans hh);clear xZ A4 vO dO hx bC sR;obtain⟨oM,_⟩:=dD.out wr hW;obtain⟨yz,y0,y1,y2,y3,y4,y5,y6⟩:=oM;go_upto_region 7 with fail
     rw[← ej,← hE];clear ej hE yz y0 y1 y2 y3 y4 y5 y6 hW c0 c1 c2 c3 c4 c5 c6 dC gx;obtain⟨⟨aR,bB⟩,ao⟩:=oR.out w4 br;obtain⟨yz,y0,y1,y2,y3,y4,y5,y6⟩:=aR;obtain⟨lz,l0,l1,l2⟩:=bB;have ez:=ao.lt;have x0:w4.cell? ⟨E,0,none⟩=some (.string x.kind):=ao.at_ 0;have x1:w4.cell? ⟨E,1,none⟩=some (.string x.name):=ao.at_ 1;have x2:w4.cell? ⟨E,2,none⟩=some (.string x.team):=ao.at_ 2;have x3:w4.cell? ⟨E,3,none⟩=some (.slice (some ⟨b1,0,none⟩) x.values.length x.values.length):=ao.at_ 3;have x4:w4.cell? ⟨E,4,none⟩=some (.bool x.ending):=ao.at_ 4;have x5:w4.cell? ⟨E,5,none⟩=some (.slice (some ⟨b2,0,none⟩) x.holds.length x.holds.length):=ao.at_ 5;have x6:w4.cell? ⟨E,6,none⟩=some (.int .i64 x.version):=ao.at_ 6;clear ao;go_wp2_with fail
     refine(Fv.out w4 br).mono ?_;rintro e w5 ⟨rfl,gv⟩;have qT:=hid gv;clear yz y0 y1 y2 y3 y4 y5 y6 lz l0 l1 l2 ez x0 x1 x2 x3 x4 x5 x6;clear gv;obtain⟨⟨aR,bB⟩,ao⟩:=oR.out w5 qT.out;obtain⟨yz,y0,y1,y2,y3,y4,y5,y6⟩:=aR;obtain⟨lz,l0,l1,l2⟩:=bB;have ez:=ao.lt;have x0:w5.cell? ⟨E,0,none⟩=some (.string x.kind):=ao.at_ 0;have x1:w5.cell? ⟨E,1,none⟩=some (.string x.name):=ao.at_ 1;have x2:w5.cell? ⟨E,2,none⟩=some (.string x.team):=ao.at_ 2;have x3:w5.cell? ⟨E,3,none⟩=some (.slice (some ⟨b1,0,none⟩) x.values.length x.values.length):=ao.at_ 3;have x4:w5.cell? ⟨E,4,none⟩=some (.bool x.ending):=ao.at_ 4;have x5:w5.cell? ⟨E,5,none⟩=some (.slice (some ⟨b2,0,none⟩) x.holds.length x.holds.length):=ao.at_ 5;have x6:w5.cell? ⟨E,6,none⟩=some (.int .i64 x.version):=ao.at_ 6;clear ao;by_cases uI:cc=0
     ·have qU:=hid (decide_eq_true uI);have CU:(cc:Int)=0:=by omega
      go_wp2_with fail
      refine(Fi.out w5 qT.out).mono ?_;rintro e w7 ⟨rfl,rfl⟩;cases t1
      ·go_wp2;go_ret;exact⟨Pl.ae (HF.out (by simp)).symm,aa aY.out qT.out⟩
      ·go_wp2_with fail
       refine(EZ.out w5 qT.out).mono ?_;rintro e w7 ⟨rfl,rfl⟩;cases t3
       ·go_wp2;go_ret;exact⟨Pl.ae (HF.out (by simp)).symm,aa aY.out qT.out⟩
       ·have uV:=ei w5;have Js:∀ px:Pst w5,E<px.W.heap.size:=fun px=>px.size ez;have IQ:∀ px:Pst w5,w.heap.size+1<px.W.heap.size:=fun px=>px.size yz;have Y0:∀ px:Pst w5,px.W.cell? ⟨w.heap.size+1,0,none⟩=some (.int .i64 K.now):=fun px=>px.cell y0 yz;have Y1:∀ px:Pst w5,px.W.cell? ⟨w.heap.size+1,1,none⟩=some (.int .i64 K.tick):=fun px=>px.cell y1 yz;have Y2:∀ px:Pst w5,px.W.cell? ⟨w.heap.size+1,2,none⟩=some (.int .i64 K.given):=fun px=>px.cell y2 yz;have Y3:∀ px:Pst w5,px.W.cell? ⟨w.heap.size+1,3,none⟩=some (.slice (some ⟨e0,0,none⟩) K.objects.length K.objects.length):=fun px=>px.cell y3 yz;have Y4:∀ px:Pst w5,px.W.cell? ⟨w.heap.size+1,4,none⟩=some (.slice (some ⟨e1,0,none⟩) K.grants.length K.grants.length):=fun px=>px.cell y4 yz;have Y5:∀ px:Pst w5,px.W.cell? ⟨w.heap.size+1,5,none⟩=some (.slice (some ⟨e2,0,none⟩) K.ledgers.length K.ledgers.length):=fun px=>px.cell y5 yz;have Y6:∀ px:Pst w5,px.W.cell? ⟨w.heap.size+1,6,none⟩=some (.slice (some ⟨e3,0,none⟩) K.purses.length K.purses.length):=fun px=>px.cell y6 yz;have X0:∀ px:Pst w5,px.W.cell? ⟨E,0,none⟩=some (.string x.kind):=fun px=>px.cell x0 ez;have X1:∀ px:Pst w5,px.W.cell? ⟨E,1,none⟩=some (.string x.name):=fun px=>px.cell x1 ez;go_wp2_with fail
        refine au w5 br (by kernel_rfl) (by kernel_rfl) ?_;repeat(first
         |go_big_quiet_skip
         |(go_big_quiet_want;go_big_quiet_op;first|go_big_quiet_on|fail))
        refine wpQuiet_nil ?_;intro _ dS;obtain⟨pw,aX⟩:=dS;subst aX;clear yz y0 y1 y2 y3 y4 y5 y6 lz l0 l1 l2 ez x0 x1 x2 x3 x4 x5 x6 uV Js IQ Y0 Y1 Y2 Y3 Y4 Y5 Y6 X0 X1;have FB:=hid (aa qT.out pw.ok);generalize pw.W=w6 at*;obtain⟨⟨aR,bB⟩,ao⟩:=oR.out w6 FB.out;obtain⟨yz,y0,y1,y2,y3,y4,y5,y6⟩:=aR;obtain⟨lz,l0,l1,l2⟩:=bB;have ez:=ao.lt;have x0:w6.cell? ⟨E,0,none⟩=some (.string x.kind):=ao.at_ 0;have x1:w6.cell? ⟨E,1,none⟩=some (.string x.name):=ao.at_ 1;have x2:w6.cell? ⟨E,2,none⟩=some (.string x.team):=ao.at_ 2;have x3:w6.cell? ⟨E,3,none⟩=some (.slice (some ⟨b1,0,none⟩) x.values.length x.values.length):=ao.at_ 3;have x4:w6.cell? ⟨E,4,none⟩=some (.bool x.ending):=ao.at_ 4;have x5:w6.cell? ⟨E,5,none⟩=some (.slice (some ⟨b2,0,none⟩) x.holds.length x.holds.length):=ao.at_ 5;have x6:w6.cell? ⟨E,6,none⟩=some (.int .i64 x.version):=ao.at_ 6;clear ao;go_wp2_with fail
        refine iT w4 FB.out (VSh w.heap.size E (.slice (some ⟨a0,0,none⟩) L.shapes.length L.shapes.length) (.slice (some ⟨a1,0,none⟩) L.mends.length L.mends.length) (.agg #[.string x.kind,.string x.name,.string x.team,.slice (some ⟨b1,0,none⟩) x.values.length x.values.length,.bool x.ending,.slice (some ⟨b2,0,none⟩) x.holds.length x.holds.length,.int .i64 x.version]) (.slice (some ⟨b1,0,none⟩) x.values.length x.values.length) sv sm) (oG _ _ _ _ _ _ _ _) (by kernel_rfl) (by kernel_rfl) (by kernel_rfl) (by kernel_rfl) ?_ ?_
        ·intro i o ho a W hW hk hd;obtain⟨⟨aR,bB⟩,ao⟩:=oR.out W hW;obtain⟨lz,l0,l1,l2⟩:=bB;have ez:=ao.lt;have x0:W.cell? ⟨E,0,none⟩=some (.string x.kind):=ao.at_ 0;have x1:W.cell? ⟨E,1,none⟩=some (.string x.name):=ao.at_ 1;have x2:W.cell? ⟨E,2,none⟩=some (.string x.team):=ao.at_ 2;have x3:W.cell? ⟨E,3,none⟩=some (.slice (some ⟨b1,0,none⟩) x.values.length x.values.length):=ao.at_ 3;have x4:W.cell? ⟨E,4,none⟩=some (.bool x.ending):=ao.at_ 4;have x5:W.cell? ⟨E,5,none⟩=some (.slice (some ⟨b2,0,none⟩) x.holds.length x.holds.length):=ao.at_ 5;have x6:W.cell? ⟨E,6,none⟩=some (.int .i64 x.version):=ao.at_ 6;have etl:a.tmps[2]?.getD undef=.pointer (some ⟨w.heap.size,0,none⟩):=(az a 2).trans ((hk 2 rfl).trans rfl);have eto:a.tmps[6]?.getD undef=.pointer (some ⟨E,0,none⟩):=(az a 6).trans ((hk 6 rfl).trans rfl);match i,ho with
         |0,ho=>
          injection ho with ho;subst ho
          exact Or.inl ⟨_,W,by simp[execOp,go_sem,etl],br,rfl⟩
         |1,ho=>
          injection ho with ho;subst ho
          have e0:a.tmps[77]?.getD undef=_:=(az a 77).trans (hd 0 _ 77 rfl rfl ⟨⟨0,.data⟩,by simp,rfl,rfl⟩);exact Or.inl ⟨_,W,by simp[execOp,go_sem,e0,l0],br,rfl⟩
         |2,ho=>
          injection ho with ho;subst ho
          exact Or.inl ⟨_,W,by simp[execOp,go_sem,etl],br,rfl⟩
         |3,ho=>
          injection ho with ho;subst ho
          have e0:a.tmps[79]?.getD undef=_:=(az a 79).trans (hd 2 _ 79 rfl rfl ⟨⟨2,.data⟩,by simp,rfl,rfl⟩);exact Or.inl ⟨_,W,by simp[execOp,go_sem,e0,l1],br,rfl⟩
         |4,ho=>
          injection ho with ho;subst ho
          exact Or.inl ⟨_,W,by simp[execOp,go_sem,eto,x0,x1,x2,x3,x4,x5,x6],br,rfl⟩
         |5,ho=>
          injection ho with ho;subst ho
          have e0:a.tmps[78]?.getD undef=_:=(az a 78).trans (hd 1 _ 78 rfl rfl ⟨⟨1,.data⟩,by simp,rfl,rfl⟩);have e1:a.tmps[80]?.getD undef=_:=(az a 80).trans (hd 3 _ 80 rfl rfl ⟨⟨3,.data⟩,by simp,rfl,rfl⟩);have e2:a.tmps[81]?.getD undef=_:=(az a 81).trans (hd 4 _ 81 rfl rfl ⟨⟨4,.data⟩,by simp,rfl,rfl⟩);refine Or.inr ⟨65,#[.slice (some ⟨a0,0,none⟩) L.shapes.length L.shapes.length,.slice (some ⟨a1,0,none⟩) L.mends.length L.mends.length,.agg #[.string x.kind,.string x.name,.string x.team,.slice (some ⟨b1,0,none⟩) x.values.length x.values.length,.bool x.ending,.slice (some ⟨b2,0,none⟩) x.holds.length x.holds.length,.int .i64 x.version]],by simp[go_sem,e0,e1,e2],(AV.out W hW).mono ?_⟩;rintro e W' ⟨v0,v1,v2,g1,n1,f1,v4,v5,v6,rfl,hg,hb⟩;exact⟨_,rfl,hb,v0,v1,v2,g1,n1,f1,v4,v5,v6,rfl,hg⟩
         |6,ho=>
          injection ho with ho;subst ho
          obtain⟨v0,v1,v2,g1,n1,f1,v4,v5,v6,e0,hg⟩:=(hd 5 _ 82 rfl rfl ⟨⟨5,.data⟩,by simp,rfl,rfl⟩)
          have e0:=(az a 82).trans e0;exact Or.inl ⟨.slice g1 n1 f1,W,by simp[execOp,go_sem,e0,kZ],br,g1,n1,f1,rfl,hg⟩
         |7,ho=>
          injection ho with ho;subst ho
          exact Or.inl ⟨_,W,by simp[execOp,go_sem,eto],br,rfl⟩
         |8,ho=>
          injection ho with ho;subst ho
          have e0:a.tmps[84]?.getD undef=_:=(az a 84).trans (hd 7 _ 84 rfl rfl ⟨⟨7,.data⟩,by simp,rfl,rfl⟩);exact Or.inl ⟨_,W,by simp[execOp,go_sem,e0,x3],br,rfl⟩
         |9,ho=>
          injection ho with ho;subst ho
          obtain⟨g1,n1,f1,e0,hg⟩:=(hd 6 _ 83 rfl rfl ⟨⟨6,.data⟩,by simp,rfl,rfl⟩)
          have e0:=(az a 83).trans e0;have e1:a.tmps[85]?.getD undef=_:=(az a 85).trans (hd 8 _ 85 rfl rfl ⟨⟨8,.data⟩,by simp,rfl,rfl⟩);refine Or.inr ⟨64,#[.slice g1 n1 f1,.slice (some ⟨b1,0,none⟩) x.values.length x.values.length],by simp[go_sem,e0,e1],(Ay.out W g1 n1 f1 hW hg).mono ?_⟩;rintro e W' ⟨rfl,hb⟩;exact⟨_,rfl,hb,rfl⟩
         |10,ho=>
          injection ho with ho;subst ho
          have e0:a.tmps[86]?.getD undef=_:=(az a 86).trans (hd 9 _ 86 rfl rfl ⟨⟨9,.data⟩,by simp,rfl,rfl⟩);exact Or.inl ⟨.bool (!sm),W,by simp[execOp,go_sem,e0],br,rfl⟩
         |n+11,ho=>simp at ho
        ·intro w9 vs A5 mP;have elast:vs 87=.bool (!sm):=mP 10 _ 87 rfl rfl;simp only[el,Act.put,List.setIfInBounds_toArray,List.set_cons_zero,List.set_cons_succ];rw[elast];generalize vs 77=s77;generalize vs 78=s78;generalize vs 79=s79;generalize vs 80=s80;generalize vs 81=s81;generalize vs 82=s82;generalize vs 83=s83;generalize vs 84=s84;generalize vs 85=s85;generalize vs 86=s86;clear mP elast;clear yz y0 y1 y2 y3 y4 y5 y6 lz l0 l1 l2 ez x0 x1 x2 x3 x4 x5 x6;have vP:=hid A5;clear A5;cases sm
         ·obtain⟨⟨aR,bB⟩,ao⟩:=oR.out w9 vP.out;obtain⟨yz,y0,y1,y2,y3,y4,y5,y6⟩:=aR;obtain⟨lz,l0,l1,l2⟩:=bB;have ez:=ao.lt;have x0:w9.cell? ⟨E,0,none⟩=some (.string x.kind):=ao.at_ 0;have x1:w9.cell? ⟨E,1,none⟩=some (.string x.name):=ao.at_ 1;have x2:w9.cell? ⟨E,2,none⟩=some (.string x.team):=ao.at_ 2;have x3:w9.cell? ⟨E,3,none⟩=some (.slice (some ⟨b1,0,none⟩) x.values.length x.values.length):=ao.at_ 3;have x4:w9.cell? ⟨E,4,none⟩=some (.bool x.ending):=ao.at_ 4;have x5:w9.cell? ⟨E,5,none⟩=some (.slice (some ⟨b2,0,none⟩) x.holds.length x.holds.length):=ao.at_ 5;have x6:w9.cell? ⟨E,6,none⟩=some (.int .i64 x.version):=ao.at_ 6;clear ao;go_wp2;go_ret;exact⟨Pl.ae (HF.out (by simp)).symm,aa aY.out vP.out⟩
         ·obtain⟨⟨aR,bB⟩,ao⟩:=oR.out w9 vP.out;obtain⟨yz,y0,y1,y2,y3,y4,y5,y6⟩:=aR;obtain⟨lz,l0,l1,l2⟩:=bB;have ez:=ao.lt;have x0:w9.cell? ⟨E,0,none⟩=some (.string x.kind):=ao.at_ 0;have x1:w9.cell? ⟨E,1,none⟩=some (.string x.name):=ao.at_ 1;have x2:w9.cell? ⟨E,2,none⟩=some (.string x.team):=ao.at_ 2;have x3:w9.cell? ⟨E,3,none⟩=some (.slice (some ⟨b1,0,none⟩) x.values.length x.values.length):=ao.at_ 3;have x4:w9.cell? ⟨E,4,none⟩=some (.bool x.ending):=ao.at_ 4;have x5:w9.cell? ⟨E,5,none⟩=some (.slice (some ⟨b2,0,none⟩) x.holds.length x.holds.length):=ao.at_ 5;have x6:w9.cell? ⟨E,6,none⟩=some (.int .i64 x.version):=ao.at_ 6;clear ao;have IW:Hid (aP L.shapes x=true∧x.values.length=(fieldsOf L x).length):=by
           have h:=IJ.out;rw[qU.out]at h;have h2:=(Bool.and_eq_true _ _).mp h.symm;have h3:=od (of_decide_eq_true h2.2);refine⟨?_,h3⟩;unfold aP;rw[h2.1];exact decide_eq_true h3
          obtain⟨fs,dV⟩:∃ fs,fs=fieldsOf L x:=⟨_,rfl⟩
          have AI:Hid (Calls Tryz.prog 66 #[.slice (some ⟨a0,0,none⟩) L.shapes.length L.shapes.length,.agg #[.string x.kind,.string x.name,.string x.team,.slice (some ⟨b1,0,none⟩) x.values.length x.values.length,.bool x.ending,.slice (some ⟨b2,0,none⟩) x.holds.length x.holds.length,.int .i64 x.version]] w9 fun e w'=>∃ b hf,e=.returned (.tuple #[.slice (some ⟨b,0,none⟩) fs.length fs.length,.bool hf])∧b<w.heap.size∧(∀ i,i<fs.length→bp w b (i*11) (fs.getD i Fld.none))∧Bel w9 w'):=by
           show Calls _ _ _ _ _;refine(jg w a0 L.shapes x _ _ _ _ w9 HA.out.1.s (aa aY.out vP.out)).mono ?_;rintro e w' ⟨a,n,c,rfl,h,hb⟩;obtain⟨b,hv,gK,iZ⟩:=h IW.out.1;injection hv with oS qY qS
           subst oS qY qS;rw[dV];exact⟨b,_,rfl,gK,iZ,hb⟩
          have oY:Hid (fs=fieldsOf L x∧x.values.length=fs.length):=⟨dV,by rw[dV];exact IW.out.2⟩
          have iZ:fs.length≤1048576:=by rw[← oY.out.2];exact Bp.out.2
          clear dV;go_wp2_with fail
          refine AI.out.mono ?_;rintro e Ff ⟨b,hf,rfl,gK,cE,AZ⟩;have qN:=hid (aa vP.out AZ);have Gc:=hid (And.intro gK cE);clear gK cE AZ AI;clear yz y0 y1 y2 y3 y4 y5 y6 lz l0 l1 l2 ez x0 x1 x2 x3 x4 x5 x6;have FR:Hid (aD (cF K fs x.values) fs.length=false→R=false):=fun hh=>HF.out (by rw[oY.out.1]at hh;rw[hh];simp);have uW:Hid (aD (cF K fs x.values) fs.length=true→aD (eR L K) (0+1)=true):=fun hh=>HT.out (by rw[oY.out.1]at hh;simp[hh,qU.out]);go_wp2;go_loopw [11] (fun i wr2=>∃ k:Nat,k≤fs.length∧i=.int .i64 k∧aD (cF K fs x.values) k=true∧Bel w4 wr2) (fun i _=>fs.length - (intOf i).toNat)
          case atStart=>exact⟨0,nz,rfl,rfl,qN.out⟩
          case round=>
           obtain⟨k,Jj,rfl,Bf,sT⟩:=hrel;have u6:=hid Bf;have oO:=hid sT;clear Bf sT;by_cases sZ:k<fs.length
           ·obtain⟨f,fG⟩:∃ f,f=fs.getD k Fld.none:=⟨_,rfl⟩
            obtain⟨v,x7⟩:∃ v,v=x.values.getD k ByteArray.empty:=⟨_,rfl⟩
            have AQ:=lo Gc.out.1 (aa aY.out oO.out).size;have qj:=(Gc.out.2 k sZ).later (aa aY.out oO.out) Gc.out.1;rw[← fG]at qj;obtain⟨bw,_,_,dP⟩:=qj;have f1:=dP.c1;have f5:=dP.c5;have Fm:=(kB.out wr oO.out).arg;have uU:=Fm.lt1;have fv:=Fm.at1 k (by rw[oY.out.2];exact sZ);rw[← x7]at fv;have Fs:(k:Int)<(x.values.length:Int):=by have:=oY.out.2;omega
            have hkf:(k:Int)<(fs.length:Int):=by omega
            have Kv:(0:Int)≤(k:Int):=by omega
            obtain⟨pl,eI⟩:∃ pl,pl=eg (kF K.objects f.to v) K.objects.length:=⟨_,rfl⟩
            have qQ:Hid (∀ W,Bel wr W→Calls Tryz.prog 67 #[.agg #[.int .i64 K.now,.int .i64 K.tick,.int .i64 K.given,.slice (some ⟨e0,0,none⟩) K.objects.length K.objects.length,.slice (some ⟨e1,0,none⟩) K.grants.length K.grants.length,.slice (some ⟨e2,0,none⟩) K.ledgers.length K.ledgers.length,.slice (some ⟨e3,0,none⟩) K.purses.length K.purses.length],.string f.to,.string v] W fun e w'=>e=.returned (.int .i64 pl)∧Bel W w'):=fun W bG=>by
             rw[eI];exact Dh K e0 e1 e2 e3 f.to v W (HA.out.2.1.later (aa (aa aY.out oO.out) bG))
            have sY:Hid (cF K fs x.values k=(!(decide (f.kind=4)&& !v.toList.isEmpty)|| !decide (pl<0))):=by
             show cF K fs x.values k=_;unfold cF oF;rw[← fG,← x7,eI,g9];simp
            clear fG x7 eI dP Fm;obtain⟨⟨aR,bB⟩,ao⟩:=oR.out wr oO.out;obtain⟨yz,y0,y1,y2,y3,y4,y5,y6⟩:=aR;obtain⟨lz,l0,l1,l2⟩:=bB;have ez:=ao.lt;have x0:wr.cell? ⟨E,0,none⟩=some (.string x.kind):=ao.at_ 0;have x1:wr.cell? ⟨E,1,none⟩=some (.string x.name):=ao.at_ 1;have x2:wr.cell? ⟨E,2,none⟩=some (.string x.team):=ao.at_ 2;have x3:wr.cell? ⟨E,3,none⟩=some (.slice (some ⟨b1,0,none⟩) x.values.length x.values.length):=ao.at_ 3;have x4:wr.cell? ⟨E,4,none⟩=some (.bool x.ending):=ao.at_ 4;have x5:wr.cell? ⟨E,5,none⟩=some (.slice (some ⟨b2,0,none⟩) x.holds.length x.holds.length):=ao.at_ 5;have x6:wr.cell? ⟨E,6,none⟩=some (.int .i64 x.version):=ao.at_ 6;clear ao;have uV:=ei wr;have Js:∀ px:Pst wr,E<px.W.heap.size:=fun px=>px.size ez;have IQ:∀ px:Pst wr,w.heap.size+1<px.W.heap.size:=fun px=>px.size yz;have hzb:∀ px:Pst wr,b<px.W.heap.size:=fun px=>px.size AQ;have hzv:∀ px:Pst wr,b1<px.W.heap.size:=fun px=>px.size uU;have Y0:∀ px:Pst wr,px.W.cell? ⟨w.heap.size+1,0,none⟩=some (.int .i64 K.now):=fun px=>px.cell y0 yz;have Y1:∀ px:Pst wr,px.W.cell? ⟨w.heap.size+1,1,none⟩=some (.int .i64 K.tick):=fun px=>px.cell y1 yz;have Y2:∀ px:Pst wr,px.W.cell? ⟨w.heap.size+1,2,none⟩=some (.int .i64 K.given):=fun px=>px.cell y2 yz;have Y3:∀ px:Pst wr,px.W.cell? ⟨w.heap.size+1,3,none⟩=some (.slice (some ⟨e0,0,none⟩) K.objects.length K.objects.length):=fun px=>px.cell y3 yz;have Y4:∀ px:Pst wr,px.W.cell? ⟨w.heap.size+1,4,none⟩=some (.slice (some ⟨e1,0,none⟩) K.grants.length K.grants.length):=fun px=>px.cell y4 yz;have Y5:∀ px:Pst wr,px.W.cell? ⟨w.heap.size+1,5,none⟩=some (.slice (some ⟨e2,0,none⟩) K.ledgers.length K.ledgers.length):=fun px=>px.cell y5 yz;have Y6:∀ px:Pst wr,px.W.cell? ⟨w.heap.size+1,6,none⟩=some (.slice (some ⟨e3,0,none⟩) K.purses.length K.purses.length):=fun px=>px.cell y6 yz;have X3:∀ px:Pst wr,px.W.cell? ⟨E,3,none⟩=some (.slice (some ⟨b1,0,none⟩) x.values.length x.values.length):=fun px=>px.cell x3 ez;have G1:∀ px:Pst wr,px.W.cell? ⟨b,k*11+1,none⟩=some (.int .i64 f.kind):=fun px=>px.cell f1 AQ;have G5:∀ px:Pst wr,px.W.cell? ⟨b,k*11+5,none⟩=some (.string f.to):=fun px=>px.cell f5 AQ;have GV:∀ px:Pst wr,px.W.cell? ⟨b1,k,none⟩=some (.string v):=fun px=>px.cell fv uU;by_cases h4:f.kind=4
            ·have H4:=hid (decide_eq_true h4);cases hv:v.toList.isEmpty
             ·have HV:=hid hv;by_cases hp:pl<0
              ·have qa:=hid (decide_eq_true hp);go_wp2_with fail
               refine au wr br (by kernel_rfl) (by kernel_rfl) ?_;repeat(first
                |go_big_quiet_skip
                |(go_big_quiet_want;go_big_quiet_op;first|go_big_quiet_on|(apply Exists.intro;refine⟨fun px=> ?_, ?_⟩;(focus(first|(go_at_call 67;(first|(with_reducible refine(qQ.out _ px.ok).mono ?_));rintro e w' ⟨he,hb⟩;exact⟨he,⟨w',aa px.ok hb⟩,rfl⟩)));go_big_quiet_on)))
               refine wpQuiet_nil ?_;intro _ dS;obtain⟨pw6,aX⟩:=dS;subst aX;go_wp2;go_ret;exact⟨Pl.ae (FR.out (ba sZ (sY.out.trans (by simp[H4.out,HV.out,qa.out])))).symm,aa aY.out (aa oO.out pw6.ok)⟩
              ·have qa:=hid (decide_eq_false hp);have AX:decide (pl<0)=false:=decide_eq_false hp;have xT:0≤pl:=by omega
               go_wp2_with fail
               refine au wr br (by kernel_rfl) (by kernel_rfl) ?_;repeat(first
                |go_big_quiet_skip
                |(go_big_quiet_want;go_big_quiet_op;first|go_big_quiet_on|(apply Exists.intro;refine⟨fun px=> ?_, ?_⟩;(focus(first|(go_at_call 67;(first|(with_reducible refine(qQ.out _ px.ok).mono ?_));rintro e w' ⟨he,hb⟩;exact⟨he,⟨w',aa px.ok hb⟩,rfl⟩)));go_big_quiet_on)))
               refine wpQuiet_nil ?_;intro _ dS;obtain⟨pw6,aX⟩:=dS;subst aX;go_wp2;go_roundw
               case rel=>exact⟨k+1,by omega,by go_num,aU u6.out (sY.out.trans (by simp[qa.out])),aa oO.out pw6.ok⟩
               case measure=>simp[intOf];omega
             ·have HV:=hid hv;go_wp2_with fail
              refine au wr br (by kernel_rfl) (by kernel_rfl) ?_;repeat(first
               |go_big_quiet_skip
               |(go_big_quiet_want;go_big_quiet_op;first|go_big_quiet_on|(apply Exists.intro;refine⟨fun px=> ?_, ?_⟩;(focus(first|(go_at_call 67;(first|(with_reducible refine(qQ.out _ px.ok).mono ?_));rintro e w' ⟨he,hb⟩;exact⟨he,⟨w',aa px.ok hb⟩,rfl⟩)));go_big_quiet_on)))
              refine wpQuiet_nil ?_;intro _ dS;obtain⟨pw6,aX⟩:=dS;subst aX;go_wp2;go_roundw
              case rel=>exact⟨k+1,by omega,by go_num,aU u6.out (sY.out.trans (by simp[HV.out])),aa oO.out pw6.ok⟩
              case measure=>simp[intOf];omega
            ·have H4:=hid (decide_eq_false h4);have h5:decide (f.kind=4)=false:=decide_eq_false h4;have h6:(f.kind==4)=false:=by simpa using h4
             go_wp2_with fail
             refine au wr br (by kernel_rfl) (by kernel_rfl) ?_;repeat(first
              |go_big_quiet_skip
              |(go_big_quiet_want;go_big_quiet_op;first|go_big_quiet_on|(apply Exists.intro;refine⟨fun px=> ?_, ?_⟩;(focus(first|(go_at_call 67;(first|(with_reducible refine(qQ.out _ px.ok).mono ?_));rintro e w' ⟨he,hb⟩;exact⟨he,⟨w',aa px.ok hb⟩,rfl⟩)));go_big_quiet_on)))
             refine wpQuiet_nil ?_;intro _ dS;obtain⟨pw6,aX⟩:=dS;subst aX;go_wp2;go_roundw
             case rel=>exact⟨k+1,by omega,by go_num,aU u6.out (sY.out.trans (by simp[H4.out])),aa oO.out pw6.ok⟩
             case measure=>simp[intOf];omega
           ·obtain rfl:k=fs.length:=by omega
            obtain⟨⟨aR,bB⟩,ao⟩:=oR.out wr oO.out;obtain⟨yz,y0,y1,y2,y3,y4,y5,y6⟩:=aR;obtain⟨lz,l0,l1,l2⟩:=bB;have ez:=ao.lt;have x0:wr.cell? ⟨E,0,none⟩=some (.string x.kind):=ao.at_ 0;have x1:wr.cell? ⟨E,1,none⟩=some (.string x.name):=ao.at_ 1;have x2:wr.cell? ⟨E,2,none⟩=some (.string x.team):=ao.at_ 2;have x3:wr.cell? ⟨E,3,none⟩=some (.slice (some ⟨b1,0,none⟩) x.values.length x.values.length):=ao.at_ 3;have x4:wr.cell? ⟨E,4,none⟩=some (.bool x.ending):=ao.at_ 4;have x5:wr.cell? ⟨E,5,none⟩=some (.slice (some ⟨b2,0,none⟩) x.holds.length x.holds.length):=ao.at_ 5;have x6:wr.cell? ⟨E,6,none⟩=some (.int .i64 x.version):=ao.at_ 6;clear ao;go_wp2;go_roundw
            case rel=>exact⟨0+1,by omega,by go_num,uW.out u6.out,aa je.out oO.out⟩
            case measure=>simp[intOf];omega
     ·have qU:=hid (decide_eq_false uI);have CU:¬ (cc:Int)=0:=by omega
      go_wp2;go_ret;exact⟨Pl.ae (HF.out (by simp[qU.out])).symm,aa aY.out qT.out⟩
    ·obtain⟨m,rfl⟩:∃ m,q=m+1:=⟨q - 1,by omega⟩
     clear h0;obtain⟨x,hx⟩:∃ x,x=K.objects.getD (m+1) Ob.none:=⟨_,rfl⟩
     have bC:=(HA.out.2.1.later fu.out).o;have gx:=bC.lt;have eb:=bC.at_ (m+1) aw;rw[← hx]at eb;obtain⟨b1,b2,_,c0,c1,c2,c3,c4,c5,c6,sR⟩:=eb;obtain⟨y,hy⟩:∃ y,y=K.objects.getD m Ob.none:=⟨_,rfl⟩
     have eb:=bC.at_ m (by omega);rw[← hy]at eb;obtain⟨p1,p2,_,d0,d1,_⟩:=eb;obtain⟨w4,ej⟩:∃ w4,w4=wr.alloc (.cells #[.string x.kind,.string x.name,.string x.team,.slice (some ⟨b1,0,none⟩) x.values.length x.values.length,.bool x.ending,.slice (some ⟨b2,0,none⟩) x.holds.length x.holds.length,.int .i64 x.version] 111):=⟨_,rfl⟩
     obtain⟨E,hE⟩:∃ E,E=wr.heap.size:=⟨_,rfl⟩
     have dC:Bel wr w4:=by rw[ej];exact ab br _
     have je:=hid (aa hW dC);have aY:=hid (aa fu.out dC);have kB:Hid (∀ W,Bel w4 W→kH W b1 b2 x):=fun W bG=>(sR.later dC).later bG;have oR:Hid (∀ W,Bel w4 W→(bm W (w.heap.size+1) (.int .i64 K.now) (.int .i64 K.tick) (.int .i64 K.given) (.slice (some ⟨e0,0,none⟩) K.objects.length K.objects.length) (.slice (some ⟨e1,0,none⟩) K.grants.length K.grants.length) (.slice (some ⟨e2,0,none⟩) K.ledgers.length K.ledgers.length) (.slice (some ⟨e3,0,none⟩) K.purses.length K.purses.length)∧ch W w.heap.size (.slice (some ⟨a0,0,none⟩) L.shapes.length L.shapes.length) (.slice (some ⟨a1,0,none⟩) L.mends.length L.mends.length) (.slice (some ⟨a2,0,none⟩) L.teams.length L.teams.length))∧aT W E #[.string x.kind,.string x.name,.string x.team,.slice (some ⟨b1,0,none⟩) x.values.length x.values.length,.bool x.ending,.slice (some ⟨b2,0,none⟩) x.holds.length x.holds.length,.int .i64 x.version]):=fun W bG=>⟨dD.out W (aa je.out bG),aT.later (by rw[ej];exact aT.bV _ _ _ _ hE) bG⟩
     have HDD:Hid (∀ W,Bel w4 W→W.cell? ⟨e0,m*7,none⟩=some (.string y.kind)∧W.cell? ⟨e0,m*7+1,none⟩=some (.string y.name)):=fun W bG=>⟨((aa dC bG).cell (p:=⟨e0,_,none⟩) gx).trans d0,((aa dC bG).cell (p:=⟨e0,_,none⟩) gx).trans d1⟩
     have Dn:Hid (∀ W,Bel w4 W→e0<W.heap.size):=fun W bG=>lo gx (aa dC bG).size;obtain⟨cc,oV⟩:∃ cc,cc=jc L.shapes x:=⟨_,rfl⟩
     obtain⟨cp,mx⟩:∃ cp,cp=iO L.shapes x:=⟨_,rfl⟩
     have Fv:Hid (∀ W,Bel w4 W→Calls Tryz.prog 61 #[.slice (some ⟨a0,0,none⟩) L.shapes.length L.shapes.length,.agg #[.string x.kind,.string x.name,.string x.team,.slice (some ⟨b1,0,none⟩) x.values.length x.values.length,.bool x.ending,.slice (some ⟨b2,0,none⟩) x.holds.length x.holds.length,.int .i64 x.version]] W fun e w'=>e=.returned (.tuple #[.int .i64 (cc:Nat),.int .i64 (cp:Nat)])∧Bel W w'):=fun W bG=>by
      rw[oV,mx];have ft:=aa aY.out bG;exact rW a0 L.shapes x b1 _ b2 _ W HA.out.2.2.1 (HA.out.1.later ft).s (kB.out W bG).arg (kB.out W bG).sized (kB.out W bG).z1 (kB.out W bG).z2
     have IJ:Hid (decide (cc=0)=(aJ L.shapes x.kind&&decide (dk (fieldsOf L x) x=0))):=by rw[oV];exact vq L x HA.out.2.2.1
     clear oV mx;obtain⟨t1,xZ⟩:∃ t1,t1=(bA L.teams x.team):=⟨_,rfl⟩
     have Fi:Hid (∀ W,Bel w4 W→Calls Tryz.prog 62 #[.slice (some ⟨a2,0,none⟩) L.teams.length L.teams.length,.string x.team] W fun e w'=>e=.returned (.bool t1)∧W=w'):=fun W bG=>by
      rw[xZ];have ft:=aa aY.out bG;exact iu a2 L.teams x.team W (HA.out.1.later ft).t
     obtain⟨t3,A4⟩:∃ t3,t3=(within x.version 1 K.now):=⟨_,rfl⟩
     have EZ:Hid (∀ W,Bel w4 W→Calls Tryz.prog 25 #[.int .i64 x.version,.int .i64 1,.int .i64 K.now] W fun e w'=>e=.returned (.bool t3)∧W=w'):=fun W bG=>by
      rw[A4];have ft:=aa aY.out bG;exact bb _ _ _ W
     obtain⟨kq,A0⟩:∃ kq,kq=pB y x:=⟨_,rfl⟩
     have oX:Hid (∀ W,Bel w4 W→Calls Tryz.prog 63 #[.string y.kind,.string y.name,.string x.kind,.string x.name] W fun e w'=>e=.returned (.int .i64 kq)∧W=w'):=fun W bG=>by
      rw[A0];exact Es _ _ _ _ W
     obtain⟨sv,vO⟩:∃ sv,sv=bL L.shapes L.mends x:=⟨_,rfl⟩
     have AV:Hid (∀ W,Bel w4 W→Calls Tryz.prog 65 #[.slice (some ⟨a0,0,none⟩) L.shapes.length L.shapes.length,.slice (some ⟨a1,0,none⟩) L.mends.length L.mends.length,.agg #[.string x.kind,.string x.name,.string x.team,.slice (some ⟨b1,0,none⟩) x.values.length x.values.length,.bool x.ending,.slice (some ⟨b2,0,none⟩) x.holds.length x.holds.length,.int .i64 x.version]] W fun e w'=>∃ v0 v1 v2 g1 n1 f1 v4 v5 v6,e=.returned (.agg #[v0,v1,v2,.slice g1 n1 f1,v4,v5,v6])∧(n1=sv.length∧TxG w' g1 f1 sv)∧Bel W w'):=fun W bG=>by
      have ft:=aa aY.out bG;refine(pI a0 a1 L.shapes L.mends x _ _ _ _ W (HA.out.1.later ft).s (HA.out.1.later ft).m HA.out.2.2.2 ((kB.out W bG).arg.g _ _)).mono ?_;rintro e w' ⟨⟨g1,n1,f1,g2,n2,f2,mid,rfl,h1,_,_,_⟩,hb⟩;rw[← vO]at h1;exact⟨_,_,_,_,_,_,_,_,_,rfl,h1.g,hb⟩
     have Bp:Hid (sv.length≤1048576∧x.values.length≤1048576):=by
      have:=(kB.out w4 br).arg.len1;refine⟨?_,this⟩;rw[vO,i5];exact this
     obtain⟨sm,dO⟩:∃ sm,sm=dZ sv x.values:=⟨_,rfl⟩
     have Ay:Hid (∀ W (g1:Option Addr) (n1 f1:Nat),Bel w4 W→(n1=sv.length∧TxG W g1 f1 sv)→Calls Tryz.prog 64 #[.slice g1 n1 f1,.slice (some ⟨b1,0,none⟩) x.values.length x.values.length] W fun e w'=>e=.returned (.bool sm)∧Bel W w'):=fun W g1 n1 f1 bG hg=>by
      rw[dO];exact Di g1 n1 f1 b1 _ sv x.values W Bp.out.1 Bp.out.2 hg.1 hg.2 (kB.out W bG).arg.lt1 (kB.out W bG).arg.at1
     have HP:Hid (eR L K (m+1)=(decide (kq<0)&&(decide (cc=0)&&t1&&t3&&sm&&aD (cF K (fieldsOf L x) x.values) (fieldsOf L x).length))):=by
      show (cD _ (m+1)&&cy L K (m+1))=_;unfold cy gF;rw[IJ.out,← hx,← vO,← dO,← xZ,← A4];rw[A0,hx,hy];show (decide _&&_)=_;rfl
     have HF:Hid ((decide (kq<0)&&(decide (cc=0)&&t1&&t3&&sm&&aD (cF K (fieldsOf L x) x.values) (fieldsOf L x).length))=false→R=false):=fun hh=>by rw[l3.out];exact ba aw (HP.out.trans hh)
     have HT:Hid ((decide (kq<0)&&(decide (cc=0)&&t1&&t3&&sm&&aD (cF K (fieldsOf L x) x.values) (fieldsOf L x).length))=true→aD (eR L K) (m+1+1)=true):=fun hh=>aU HQ.out (HP.out.trans hh);clear xZ A4 vO dO hx bC sR hy A0 d0 d1;obtain⟨oM,_⟩:=dD.out wr hW;obtain⟨yz,y0,y1,y2,y3,y4,y5,y6⟩:=oM;go_upto_region 7 with fail
     rw[← ej,← hE];clear ej hE yz y0 y1 y2 y3 y4 y5 y6 hW c0 c1 c2 c3 c4 c5 c6 dC gx;obtain⟨⟨aR,bB⟩,ao⟩:=oR.out w4 br;obtain⟨yz,y0,y1,y2,y3,y4,y5,y6⟩:=aR;obtain⟨lz,l0,l1,l2⟩:=bB;have ez:=ao.lt;have x0:w4.cell? ⟨E,0,none⟩=some (.string x.kind):=ao.at_ 0;have x1:w4.cell? ⟨E,1,none⟩=some (.string x.name):=ao.at_ 1;have x2:w4.cell? ⟨E,2,none⟩=some (.string x.team):=ao.at_ 2;have x3:w4.cell? ⟨E,3,none⟩=some (.slice (some ⟨b1,0,none⟩) x.values.length x.values.length):=ao.at_ 3;have x4:w4.cell? ⟨E,4,none⟩=some (.bool x.ending):=ao.at_ 4;have x5:w4.cell? ⟨E,5,none⟩=some (.slice (some ⟨b2,0,none⟩) x.holds.length x.holds.length):=ao.at_ 5;have x6:w4.cell? ⟨E,6,none⟩=some (.int .i64 x.version):=ao.at_ 6;clear ao;go_wp2_with fail
     refine(Fv.out w4 br).mono ?_;rintro e w5 ⟨rfl,gv⟩;have qT:=hid gv;clear yz y0 y1 y2 y3 y4 y5 y6 lz l0 l1 l2 ez x0 x1 x2 x3 x4 x5 x6;clear gv;obtain⟨⟨aR,bB⟩,ao⟩:=oR.out w5 qT.out;obtain⟨yz,y0,y1,y2,y3,y4,y5,y6⟩:=aR;obtain⟨lz,l0,l1,l2⟩:=bB;have ez:=ao.lt;have x0:w5.cell? ⟨E,0,none⟩=some (.string x.kind):=ao.at_ 0;have x1:w5.cell? ⟨E,1,none⟩=some (.string x.name):=ao.at_ 1;have x2:w5.cell? ⟨E,2,none⟩=some (.string x.team):=ao.at_ 2;have x3:w5.cell? ⟨E,3,none⟩=some (.slice (some ⟨b1,0,none⟩) x.values.length x.values.length):=ao.at_ 3;have x4:w5.cell? ⟨E,4,none⟩=some (.bool x.ending):=ao.at_ 4;have x5:w5.cell? ⟨E,5,none⟩=some (.slice (some ⟨b2,0,none⟩) x.holds.length x.holds.length):=ao.at_ 5;have x6:w5.cell? ⟨E,6,none⟩=some (.int .i64 x.version):=ao.at_ 6;clear ao;by_cases uI:cc=0
     ·have qU:=hid (decide_eq_true uI);have CU:(cc:Int)=0:=by omega
      go_wp2_with fail
      refine(Fi.out w5 qT.out).mono ?_;rintro e w7 ⟨rfl,rfl⟩;cases t1
      ·go_wp2;go_ret;exact⟨Pl.ae (HF.out (by simp)).symm,aa aY.out qT.out⟩
      ·go_wp2_with fail
       refine(EZ.out w5 qT.out).mono ?_;rintro e w7 ⟨rfl,rfl⟩;cases t3
       ·go_wp2;go_ret;exact⟨Pl.ae (HF.out (by simp)).symm,aa aY.out qT.out⟩
       ·have uV:=ei w5;have Js:∀ px:Pst w5,E<px.W.heap.size:=fun px=>px.size ez;have IQ:∀ px:Pst w5,w.heap.size+1<px.W.heap.size:=fun px=>px.size yz;have Y0:∀ px:Pst w5,px.W.cell? ⟨w.heap.size+1,0,none⟩=some (.int .i64 K.now):=fun px=>px.cell y0 yz;have Y1:∀ px:Pst w5,px.W.cell? ⟨w.heap.size+1,1,none⟩=some (.int .i64 K.tick):=fun px=>px.cell y1 yz;have Y2:∀ px:Pst w5,px.W.cell? ⟨w.heap.size+1,2,none⟩=some (.int .i64 K.given):=fun px=>px.cell y2 yz;have Y3:∀ px:Pst w5,px.W.cell? ⟨w.heap.size+1,3,none⟩=some (.slice (some ⟨e0,0,none⟩) K.objects.length K.objects.length):=fun px=>px.cell y3 yz;have Y4:∀ px:Pst w5,px.W.cell? ⟨w.heap.size+1,4,none⟩=some (.slice (some ⟨e1,0,none⟩) K.grants.length K.grants.length):=fun px=>px.cell y4 yz;have Y5:∀ px:Pst w5,px.W.cell? ⟨w.heap.size+1,5,none⟩=some (.slice (some ⟨e2,0,none⟩) K.ledgers.length K.ledgers.length):=fun px=>px.cell y5 yz;have Y6:∀ px:Pst w5,px.W.cell? ⟨w.heap.size+1,6,none⟩=some (.slice (some ⟨e3,0,none⟩) K.purses.length K.purses.length):=fun px=>px.cell y6 yz;have X0:∀ px:Pst w5,px.W.cell? ⟨E,0,none⟩=some (.string x.kind):=fun px=>px.cell x0 ez;have X1:∀ px:Pst w5,px.W.cell? ⟨E,1,none⟩=some (.string x.name):=fun px=>px.cell x1 ez;obtain⟨d0,d1⟩:=HDD.out w5 qT.out;have d2:=Dn.out w5 qT.out;have D0:∀ px:Pst w5,px.W.cell? ⟨e0,m*7,none⟩=some (.string y.kind):=fun px=>px.cell d0 d2;have D1:∀ px:Pst w5,px.W.cell? ⟨e0,m*7+1,none⟩=some (.string y.name):=fun px=>px.cell d1 d2;have xQ:∀ px:Pst w5,e0<px.W.heap.size:=fun px=>px.size d2;have AH:(0:Int)≤(m:Int):=by omega
        have gk:(m:Int)<(K.objects.length:Int):=by omega
        have Jc:IntKind.i64.wrap (m:Int)=(m:Int):=jM _ (by omega) (by omega);have gQ:(0:Int)<(m:Int)+1:=by omega
        have Dv:=hid fun (W:World) (bG:Bel w5 W)=>oX.out W (aa qT.out bG);by_cases hk:kq<0
        ·have oU:=hid (decide_eq_true hk);have pq:¬ 0≤kq:=by omega
         have hk3:decide (0≤kq)=false:=decide_eq_false pq;go_wp2_with fail
         refine au w5 br (by kernel_rfl) (by kernel_rfl) ?_;repeat(first
          |go_big_quiet_skip
          |(go_big_quiet_want;go_big_quiet_op;first|go_big_quiet_on|(apply Exists.intro;refine⟨fun px=> ?_, ?_⟩;(focus(first|(go_at_call 63;(first|(with_reducible refine(Dv.out _ px.ok).mono ?_));rintro e w' ⟨he,hb⟩;exact⟨he,px,hb.symm⟩)));go_big_quiet_on)))
         refine wpQuiet_nil ?_;intro _ dS;obtain⟨pw,aX⟩:=dS;subst aX;clear yz y0 y1 y2 y3 y4 y5 y6 lz l0 l1 l2 ez x0 x1 x2 x3 x4 x5 x6 uV Js IQ Y0 Y1 Y2 Y3 Y4 Y5 Y6 X0 X1 D0 D1 d0 d1 d2 xQ;have FB:=hid (aa qT.out pw.ok);generalize pw.W=w6 at*;obtain⟨⟨aR,bB⟩,ao⟩:=oR.out w6 FB.out;obtain⟨yz,y0,y1,y2,y3,y4,y5,y6⟩:=aR;obtain⟨lz,l0,l1,l2⟩:=bB;have ez:=ao.lt;have x0:w6.cell? ⟨E,0,none⟩=some (.string x.kind):=ao.at_ 0;have x1:w6.cell? ⟨E,1,none⟩=some (.string x.name):=ao.at_ 1;have x2:w6.cell? ⟨E,2,none⟩=some (.string x.team):=ao.at_ 2;have x3:w6.cell? ⟨E,3,none⟩=some (.slice (some ⟨b1,0,none⟩) x.values.length x.values.length):=ao.at_ 3;have x4:w6.cell? ⟨E,4,none⟩=some (.bool x.ending):=ao.at_ 4;have x5:w6.cell? ⟨E,5,none⟩=some (.slice (some ⟨b2,0,none⟩) x.holds.length x.holds.length):=ao.at_ 5;have x6:w6.cell? ⟨E,6,none⟩=some (.int .i64 x.version):=ao.at_ 6;clear ao;go_wp2_with fail
         refine iT w4 FB.out (VSh w.heap.size E (.slice (some ⟨a0,0,none⟩) L.shapes.length L.shapes.length) (.slice (some ⟨a1,0,none⟩) L.mends.length L.mends.length) (.agg #[.string x.kind,.string x.name,.string x.team,.slice (some ⟨b1,0,none⟩) x.values.length x.values.length,.bool x.ending,.slice (some ⟨b2,0,none⟩) x.holds.length x.holds.length,.int .i64 x.version]) (.slice (some ⟨b1,0,none⟩) x.values.length x.values.length) sv sm) (oG _ _ _ _ _ _ _ _) (by kernel_rfl) (by kernel_rfl) (by kernel_rfl) (by kernel_rfl) ?_ ?_
         ·intro i o ho a W hW hk hd;obtain⟨⟨aR,bB⟩,ao⟩:=oR.out W hW;obtain⟨lz,l0,l1,l2⟩:=bB;have ez:=ao.lt;have x0:W.cell? ⟨E,0,none⟩=some (.string x.kind):=ao.at_ 0;have x1:W.cell? ⟨E,1,none⟩=some (.string x.name):=ao.at_ 1;have x2:W.cell? ⟨E,2,none⟩=some (.string x.team):=ao.at_ 2;have x3:W.cell? ⟨E,3,none⟩=some (.slice (some ⟨b1,0,none⟩) x.values.length x.values.length):=ao.at_ 3;have x4:W.cell? ⟨E,4,none⟩=some (.bool x.ending):=ao.at_ 4;have x5:W.cell? ⟨E,5,none⟩=some (.slice (some ⟨b2,0,none⟩) x.holds.length x.holds.length):=ao.at_ 5;have x6:W.cell? ⟨E,6,none⟩=some (.int .i64 x.version):=ao.at_ 6;have etl:a.tmps[2]?.getD undef=.pointer (some ⟨w.heap.size,0,none⟩):=(az a 2).trans ((hk 2 rfl).trans rfl);have eto:a.tmps[6]?.getD undef=.pointer (some ⟨E,0,none⟩):=(az a 6).trans ((hk 6 rfl).trans rfl);match i,ho with
          |0,ho=>
           injection ho with ho;subst ho
           exact Or.inl ⟨_,W,by simp[execOp,go_sem,etl],br,rfl⟩
          |1,ho=>
           injection ho with ho;subst ho
           have e0:a.tmps[77]?.getD undef=_:=(az a 77).trans (hd 0 _ 77 rfl rfl ⟨⟨0,.data⟩,by simp,rfl,rfl⟩);exact Or.inl ⟨_,W,by simp[execOp,go_sem,e0,l0],br,rfl⟩
          |2,ho=>
           injection ho with ho;subst ho
           exact Or.inl ⟨_,W,by simp[execOp,go_sem,etl],br,rfl⟩
          |3,ho=>
           injection ho with ho;subst ho
           have e0:a.tmps[79]?.getD undef=_:=(az a 79).trans (hd 2 _ 79 rfl rfl ⟨⟨2,.data⟩,by simp,rfl,rfl⟩);exact Or.inl ⟨_,W,by simp[execOp,go_sem,e0,l1],br,rfl⟩
          |4,ho=>
           injection ho with ho;subst ho
           exact Or.inl ⟨_,W,by simp[execOp,go_sem,eto,x0,x1,x2,x3,x4,x5,x6],br,rfl⟩
          |5,ho=>
           injection ho with ho;subst ho
           have e0:a.tmps[78]?.getD undef=_:=(az a 78).trans (hd 1 _ 78 rfl rfl ⟨⟨1,.data⟩,by simp,rfl,rfl⟩);have e1:a.tmps[80]?.getD undef=_:=(az a 80).trans (hd 3 _ 80 rfl rfl ⟨⟨3,.data⟩,by simp,rfl,rfl⟩);have e2:a.tmps[81]?.getD undef=_:=(az a 81).trans (hd 4 _ 81 rfl rfl ⟨⟨4,.data⟩,by simp,rfl,rfl⟩);refine Or.inr ⟨65,#[.slice (some ⟨a0,0,none⟩) L.shapes.length L.shapes.length,.slice (some ⟨a1,0,none⟩) L.mends.length L.mends.length,.agg #[.string x.kind,.string x.name,.string x.team,.slice (some ⟨b1,0,none⟩) x.values.length x.values.length,.bool x.ending,.slice (some ⟨b2,0,none⟩) x.holds.length x.holds.length,.int .i64 x.version]],by simp[go_sem,e0,e1,e2],(AV.out W hW).mono ?_⟩;rintro e W' ⟨v0,v1,v2,g1,n1,f1,v4,v5,v6,rfl,hg,hb⟩;exact⟨_,rfl,hb,v0,v1,v2,g1,n1,f1,v4,v5,v6,rfl,hg⟩
          |6,ho=>
           injection ho with ho;subst ho
           obtain⟨v0,v1,v2,g1,n1,f1,v4,v5,v6,e0,hg⟩:=(hd 5 _ 82 rfl rfl ⟨⟨5,.data⟩,by simp,rfl,rfl⟩)
           have e0:=(az a 82).trans e0;exact Or.inl ⟨.slice g1 n1 f1,W,by simp[execOp,go_sem,e0,kZ],br,g1,n1,f1,rfl,hg⟩
          |7,ho=>
           injection ho with ho;subst ho
           exact Or.inl ⟨_,W,by simp[execOp,go_sem,eto],br,rfl⟩
          |8,ho=>
           injection ho with ho;subst ho
           have e0:a.tmps[84]?.getD undef=_:=(az a 84).trans (hd 7 _ 84 rfl rfl ⟨⟨7,.data⟩,by simp,rfl,rfl⟩);exact Or.inl ⟨_,W,by simp[execOp,go_sem,e0,x3],br,rfl⟩
          |9,ho=>
           injection ho with ho;subst ho
           obtain⟨g1,n1,f1,e0,hg⟩:=(hd 6 _ 83 rfl rfl ⟨⟨6,.data⟩,by simp,rfl,rfl⟩)
           have e0:=(az a 83).trans e0;have e1:a.tmps[85]?.getD undef=_:=(az a 85).trans (hd 8 _ 85 rfl rfl ⟨⟨8,.data⟩,by simp,rfl,rfl⟩);refine Or.inr ⟨64,#[.slice g1 n1 f1,.slice (some ⟨b1,0,none⟩) x.values.length x.values.length],by simp[go_sem,e0,e1],(Ay.out W g1 n1 f1 hW hg).mono ?_⟩;rintro e W' ⟨rfl,hb⟩;exact⟨_,rfl,hb,rfl⟩
          |10,ho=>
           injection ho with ho;subst ho
           have e0:a.tmps[86]?.getD undef=_:=(az a 86).trans (hd 9 _ 86 rfl rfl ⟨⟨9,.data⟩,by simp,rfl,rfl⟩);exact Or.inl ⟨.bool (!sm),W,by simp[execOp,go_sem,e0],br,rfl⟩
          |n+11,ho=>simp at ho
         ·intro w9 vs A5 mP;have elast:vs 87=.bool (!sm):=mP 10 _ 87 rfl rfl;simp only[el,Act.put,List.setIfInBounds_toArray,List.set_cons_zero,List.set_cons_succ];rw[elast];generalize vs 77=s77;generalize vs 78=s78;generalize vs 79=s79;generalize vs 80=s80;generalize vs 81=s81;generalize vs 82=s82;generalize vs 83=s83;generalize vs 84=s84;generalize vs 85=s85;generalize vs 86=s86;clear mP elast;clear yz y0 y1 y2 y3 y4 y5 y6 lz l0 l1 l2 ez x0 x1 x2 x3 x4 x5 x6;have vP:=hid A5;clear A5;cases sm
          ·obtain⟨⟨aR,bB⟩,ao⟩:=oR.out w9 vP.out;obtain⟨yz,y0,y1,y2,y3,y4,y5,y6⟩:=aR;obtain⟨lz,l0,l1,l2⟩:=bB;have ez:=ao.lt;have x0:w9.cell? ⟨E,0,none⟩=some (.string x.kind):=ao.at_ 0;have x1:w9.cell? ⟨E,1,none⟩=some (.string x.name):=ao.at_ 1;have x2:w9.cell? ⟨E,2,none⟩=some (.string x.team):=ao.at_ 2;have x3:w9.cell? ⟨E,3,none⟩=some (.slice (some ⟨b1,0,none⟩) x.values.length x.values.length):=ao.at_ 3;have x4:w9.cell? ⟨E,4,none⟩=some (.bool x.ending):=ao.at_ 4;have x5:w9.cell? ⟨E,5,none⟩=some (.slice (some ⟨b2,0,none⟩) x.holds.length x.holds.length):=ao.at_ 5;have x6:w9.cell? ⟨E,6,none⟩=some (.int .i64 x.version):=ao.at_ 6;clear ao;go_wp2;go_ret;exact⟨Pl.ae (HF.out (by simp)).symm,aa aY.out vP.out⟩
          ·obtain⟨⟨aR,bB⟩,ao⟩:=oR.out w9 vP.out;obtain⟨yz,y0,y1,y2,y3,y4,y5,y6⟩:=aR;obtain⟨lz,l0,l1,l2⟩:=bB;have ez:=ao.lt;have x0:w9.cell? ⟨E,0,none⟩=some (.string x.kind):=ao.at_ 0;have x1:w9.cell? ⟨E,1,none⟩=some (.string x.name):=ao.at_ 1;have x2:w9.cell? ⟨E,2,none⟩=some (.string x.team):=ao.at_ 2;have x3:w9.cell? ⟨E,3,none⟩=some (.slice (some ⟨b1,0,none⟩) x.values.length x.values.length):=ao.at_ 3;have x4:w9.cell? ⟨E,4,none⟩=some (.bool x.ending):=ao.at_ 4;have x5:w9.cell? ⟨E,5,none⟩=some (.slice (some ⟨b2,0,none⟩) x.holds.length x.holds.length):=ao.at_ 5;have x6:w9.cell? ⟨E,6,none⟩=some (.int .i64 x.version):=ao.at_ 6;clear ao;have IW:Hid (aP L.shapes x=true∧x.values.length=(fieldsOf L x).length):=by
            have h:=IJ.out;rw[qU.out]at h;have h2:=(Bool.and_eq_true _ _).mp h.symm;have h3:=od (of_decide_eq_true h2.2);refine⟨?_,h3⟩;unfold aP;rw[h2.1];exact decide_eq_true h3
           obtain⟨fs,dV⟩:∃ fs,fs=fieldsOf L x:=⟨_,rfl⟩
           have AI:Hid (Calls Tryz.prog 66 #[.slice (some ⟨a0,0,none⟩) L.shapes.length L.shapes.length,.agg #[.string x.kind,.string x.name,.string x.team,.slice (some ⟨b1,0,none⟩) x.values.length x.values.length,.bool x.ending,.slice (some ⟨b2,0,none⟩) x.holds.length x.holds.length,.int .i64 x.version]] w9 fun e w'=>∃ b hf,e=.returned (.tuple #[.slice (some ⟨b,0,none⟩) fs.length fs.length,.bool hf])∧b<w.heap.size∧(∀ i,i<fs.length→bp w b (i*11) (fs.getD i Fld.none))∧Bel w9 w'):=by
            show Calls _ _ _ _ _;refine(jg w a0 L.shapes x _ _ _ _ w9 HA.out.1.s (aa aY.out vP.out)).mono ?_;rintro e w' ⟨a,n,c,rfl,h,hb⟩;obtain⟨b,hv,gK,iZ⟩:=h IW.out.1;injection hv with oS qY qS
            subst oS qY qS;rw[dV];exact⟨b,_,rfl,gK,iZ,hb⟩
           have oY:Hid (fs=fieldsOf L x∧x.values.length=fs.length):=⟨dV,by rw[dV];exact IW.out.2⟩
           have iZ:fs.length≤1048576:=by rw[← oY.out.2];exact Bp.out.2
           clear dV;go_wp2_with fail
           refine AI.out.mono ?_;rintro e Ff ⟨b,hf,rfl,gK,cE,AZ⟩;have qN:=hid (aa vP.out AZ);have Gc:=hid (And.intro gK cE);clear gK cE AZ AI;clear yz y0 y1 y2 y3 y4 y5 y6 lz l0 l1 l2 ez x0 x1 x2 x3 x4 x5 x6;have FR:Hid (aD (cF K fs x.values) fs.length=false→R=false):=fun hh=>HF.out (by rw[oY.out.1]at hh;rw[hh];simp);have uW:Hid (aD (cF K fs x.values) fs.length=true→aD (eR L K) (m+1+1)=true):=fun hh=>HT.out (by rw[oY.out.1]at hh;simp[hh,qU.out,oU.out]);go_wp2;go_loopw [11] (fun i wr2=>∃ k:Nat,k≤fs.length∧i=.int .i64 k∧aD (cF K fs x.values) k=true∧Bel w4 wr2) (fun i _=>fs.length - (intOf i).toNat)
           case atStart=>exact⟨0,nz,rfl,rfl,qN.out⟩
           case round=>
            obtain⟨k,Jj,rfl,Bf,sT⟩:=hrel;have u6:=hid Bf;have oO:=hid sT;clear Bf sT;by_cases sZ:k<fs.length
            ·obtain⟨f,fG⟩:∃ f,f=fs.getD k Fld.none:=⟨_,rfl⟩
             obtain⟨v,x7⟩:∃ v,v=x.values.getD k ByteArray.empty:=⟨_,rfl⟩
             have AQ:=lo Gc.out.1 (aa aY.out oO.out).size;have qj:=(Gc.out.2 k sZ).later (aa aY.out oO.out) Gc.out.1;rw[← fG]at qj;obtain⟨bw,_,_,dP⟩:=qj;have f1:=dP.c1;have f5:=dP.c5;have Fm:=(kB.out wr oO.out).arg;have uU:=Fm.lt1;have fv:=Fm.at1 k (by rw[oY.out.2];exact sZ);rw[← x7]at fv;have Fs:(k:Int)<(x.values.length:Int):=by have:=oY.out.2;omega
             have hkf:(k:Int)<(fs.length:Int):=by omega
             have Kv:(0:Int)≤(k:Int):=by omega
             obtain⟨pl,eI⟩:∃ pl,pl=eg (kF K.objects f.to v) K.objects.length:=⟨_,rfl⟩
             have qQ:Hid (∀ W,Bel wr W→Calls Tryz.prog 67 #[.agg #[.int .i64 K.now,.int .i64 K.tick,.int .i64 K.given,.slice (some ⟨e0,0,none⟩) K.objects.length K.objects.length,.slice (some ⟨e1,0,none⟩) K.grants.length K.grants.length,.slice (some ⟨e2,0,none⟩) K.ledgers.length K.ledgers.length,.slice (some ⟨e3,0,none⟩) K.purses.length K.purses.length],.string f.to,.string v] W fun e w'=>e=.returned (.int .i64 pl)∧Bel W w'):=fun W bG=>by
              rw[eI];exact Dh K e0 e1 e2 e3 f.to v W (HA.out.2.1.later (aa (aa aY.out oO.out) bG))
             have sY:Hid (cF K fs x.values k=(!(decide (f.kind=4)&& !v.toList.isEmpty)|| !decide (pl<0))):=by
              show cF K fs x.values k=_;unfold cF oF;rw[← fG,← x7,eI,g9];simp
             clear fG x7 eI dP Fm;obtain⟨⟨aR,bB⟩,ao⟩:=oR.out wr oO.out;obtain⟨yz,y0,y1,y2,y3,y4,y5,y6⟩:=aR;obtain⟨lz,l0,l1,l2⟩:=bB;have ez:=ao.lt;have x0:wr.cell? ⟨E,0,none⟩=some (.string x.kind):=ao.at_ 0;have x1:wr.cell? ⟨E,1,none⟩=some (.string x.name):=ao.at_ 1;have x2:wr.cell? ⟨E,2,none⟩=some (.string x.team):=ao.at_ 2;have x3:wr.cell? ⟨E,3,none⟩=some (.slice (some ⟨b1,0,none⟩) x.values.length x.values.length):=ao.at_ 3;have x4:wr.cell? ⟨E,4,none⟩=some (.bool x.ending):=ao.at_ 4;have x5:wr.cell? ⟨E,5,none⟩=some (.slice (some ⟨b2,0,none⟩) x.holds.length x.holds.length):=ao.at_ 5;have x6:wr.cell? ⟨E,6,none⟩=some (.int .i64 x.version):=ao.at_ 6;clear ao;have uV:=ei wr;have Js:∀ px:Pst wr,E<px.W.heap.size:=fun px=>px.size ez;have IQ:∀ px:Pst wr,w.heap.size+1<px.W.heap.size:=fun px=>px.size yz;have hzb:∀ px:Pst wr,b<px.W.heap.size:=fun px=>px.size AQ;have hzv:∀ px:Pst wr,b1<px.W.heap.size:=fun px=>px.size uU;have Y0:∀ px:Pst wr,px.W.cell? ⟨w.heap.size+1,0,none⟩=some (.int .i64 K.now):=fun px=>px.cell y0 yz;have Y1:∀ px:Pst wr,px.W.cell? ⟨w.heap.size+1,1,none⟩=some (.int .i64 K.tick):=fun px=>px.cell y1 yz;have Y2:∀ px:Pst wr,px.W.cell? ⟨w.heap.size+1,2,none⟩=some (.int .i64 K.given):=fun px=>px.cell y2 yz;have Y3:∀ px:Pst wr,px.W.cell? ⟨w.heap.size+1,3,none⟩=some (.slice (some ⟨e0,0,none⟩) K.objects.length K.objects.length):=fun px=>px.cell y3 yz;have Y4:∀ px:Pst wr,px.W.cell? ⟨w.heap.size+1,4,none⟩=some (.slice (some ⟨e1,0,none⟩) K.grants.length K.grants.length):=fun px=>px.cell y4 yz;have Y5:∀ px:Pst wr,px.W.cell? ⟨w.heap.size+1,5,none⟩=some (.slice (some ⟨e2,0,none⟩) K.ledgers.length K.ledgers.length):=fun px=>px.cell y5 yz;have Y6:∀ px:Pst wr,px.W.cell? ⟨w.heap.size+1,6,none⟩=some (.slice (some ⟨e3,0,none⟩) K.purses.length K.purses.length):=fun px=>px.cell y6 yz;have X3:∀ px:Pst wr,px.W.cell? ⟨E,3,none⟩=some (.slice (some ⟨b1,0,none⟩) x.values.length x.values.length):=fun px=>px.cell x3 ez;have G1:∀ px:Pst wr,px.W.cell? ⟨b,k*11+1,none⟩=some (.int .i64 f.kind):=fun px=>px.cell f1 AQ;have G5:∀ px:Pst wr,px.W.cell? ⟨b,k*11+5,none⟩=some (.string f.to):=fun px=>px.cell f5 AQ;have GV:∀ px:Pst wr,px.W.cell? ⟨b1,k,none⟩=some (.string v):=fun px=>px.cell fv uU;by_cases h4:f.kind=4
             ·have H4:=hid (decide_eq_true h4);cases hv:v.toList.isEmpty
              ·have HV:=hid hv;by_cases hp:pl<0
               ·have qa:=hid (decide_eq_true hp);go_wp2_with fail
                refine au wr br (by kernel_rfl) (by kernel_rfl) ?_;repeat(first
                 |go_big_quiet_skip
                 |(go_big_quiet_want;go_big_quiet_op;first|go_big_quiet_on|(apply Exists.intro;refine⟨fun px=> ?_, ?_⟩;(focus(first|(go_at_call 67;(first|(with_reducible refine(qQ.out _ px.ok).mono ?_));rintro e w' ⟨he,hb⟩;exact⟨he,⟨w',aa px.ok hb⟩,rfl⟩)));go_big_quiet_on)))
                refine wpQuiet_nil ?_;intro _ dS;obtain⟨pw6,aX⟩:=dS;subst aX;go_wp2;go_ret;exact⟨Pl.ae (FR.out (ba sZ (sY.out.trans (by simp[H4.out,HV.out,qa.out])))).symm,aa aY.out (aa oO.out pw6.ok)⟩
               ·have qa:=hid (decide_eq_false hp);have AX:decide (pl<0)=false:=decide_eq_false hp;have xT:0≤pl:=by omega
                go_wp2_with fail
                refine au wr br (by kernel_rfl) (by kernel_rfl) ?_;repeat(first
                 |go_big_quiet_skip
                 |(go_big_quiet_want;go_big_quiet_op;first|go_big_quiet_on|(apply Exists.intro;refine⟨fun px=> ?_, ?_⟩;(focus(first|(go_at_call 67;(first|(with_reducible refine(qQ.out _ px.ok).mono ?_));rintro e w' ⟨he,hb⟩;exact⟨he,⟨w',aa px.ok hb⟩,rfl⟩)));go_big_quiet_on)))
                refine wpQuiet_nil ?_;intro _ dS;obtain⟨pw6,aX⟩:=dS;subst aX;go_wp2;go_roundw
                case rel=>exact⟨k+1,by omega,by go_num,aU u6.out (sY.out.trans (by simp[qa.out])),aa oO.out pw6.ok⟩
                case measure=>simp[intOf];omega
              ·have HV:=hid hv;go_wp2_with fail
               refine au wr br (by kernel_rfl) (by kernel_rfl) ?_;repeat(first
                |go_big_quiet_skip
                |(go_big_quiet_want;go_big_quiet_op;first|go_big_quiet_on|(apply Exists.intro;refine⟨fun px=> ?_, ?_⟩;(focus(first|(go_at_call 67;(first|(with_reducible refine(qQ.out _ px.ok).mono ?_));rintro e w' ⟨he,hb⟩;exact⟨he,⟨w',aa px.ok hb⟩,rfl⟩)));go_big_quiet_on)))
               refine wpQuiet_nil ?_;intro _ dS;obtain⟨pw6,aX⟩:=dS;subst aX;go_wp2;go_roundw
               case rel=>exact⟨k+1,by omega,by go_num,aU u6.out (sY.out.trans (by simp[HV.out])),aa oO.out pw6.ok⟩
               case measure=>simp[intOf];omega
             ·have H4:=hid (decide_eq_false h4);have h5:decide (f.kind=4)=false:=decide_eq_false h4;have h6:(f.kind==4)=false:=by simpa using h4
              go_wp2_with fail
              refine au wr br (by kernel_rfl) (by kernel_rfl) ?_;repeat(first
               |go_big_quiet_skip
               |(go_big_quiet_want;go_big_quiet_op;first|go_big_quiet_on|(apply Exists.intro;refine⟨fun px=> ?_, ?_⟩;(focus(first|(go_at_call 67;(first|(with_reducible refine(qQ.out _ px.ok).mono ?_));rintro e w' ⟨he,hb⟩;exact⟨he,⟨w',aa px.ok hb⟩,rfl⟩)));go_big_quiet_on)))
              refine wpQuiet_nil ?_;intro _ dS;obtain⟨pw6,aX⟩:=dS;subst aX;go_wp2;go_roundw
              case rel=>exact⟨k+1,by omega,by go_num,aU u6.out (sY.out.trans (by simp[H4.out])),aa oO.out pw6.ok⟩
              case measure=>simp[intOf];omega
            ·obtain rfl:k=fs.length:=by omega
             obtain⟨⟨aR,bB⟩,ao⟩:=oR.out wr oO.out;obtain⟨yz,y0,y1,y2,y3,y4,y5,y6⟩:=aR;obtain⟨lz,l0,l1,l2⟩:=bB;have ez:=ao.lt;have x0:wr.cell? ⟨E,0,none⟩=some (.string x.kind):=ao.at_ 0;have x1:wr.cell? ⟨E,1,none⟩=some (.string x.name):=ao.at_ 1;have x2:wr.cell? ⟨E,2,none⟩=some (.string x.team):=ao.at_ 2;have x3:wr.cell? ⟨E,3,none⟩=some (.slice (some ⟨b1,0,none⟩) x.values.length x.values.length):=ao.at_ 3;have x4:wr.cell? ⟨E,4,none⟩=some (.bool x.ending):=ao.at_ 4;have x5:wr.cell? ⟨E,5,none⟩=some (.slice (some ⟨b2,0,none⟩) x.holds.length x.holds.length):=ao.at_ 5;have x6:wr.cell? ⟨E,6,none⟩=some (.int .i64 x.version):=ao.at_ 6;clear ao;go_wp2;go_roundw
             case rel=>exact⟨m+1+1,by omega,by go_num,uW.out u6.out,aa je.out oO.out⟩
             case measure=>simp[intOf];omega
        ·have oU:=hid (decide_eq_false hk);have pq:0≤kq:=by omega
         go_wp2_with fail
         refine au w5 br (by kernel_rfl) (by kernel_rfl) ?_;repeat(first
          |go_big_quiet_skip
          |(go_big_quiet_want;go_big_quiet_op;first|go_big_quiet_on|(apply Exists.intro;refine⟨fun px=> ?_, ?_⟩;(focus(first|(go_at_call 63;(first|(with_reducible refine(Dv.out _ px.ok).mono ?_));rintro e w' ⟨he,hb⟩;exact⟨he,px,hb.symm⟩)));go_big_quiet_on)))
         refine wpQuiet_nil ?_;intro _ dS;obtain⟨pw,aX⟩:=dS;subst aX;go_wp2;go_ret;exact⟨Pl.ae (HF.out (by simp[oU.out])).symm,aa aY.out (aa qT.out pw.ok)⟩
     ·have qU:=hid (decide_eq_false uI);have CU:¬ (cc:Int)=0:=by omega
      go_wp2;go_ret;exact⟨Pl.ae (HF.out (by simp[qU.out])).symm,aa aY.out qT.out⟩
   ·obtain rfl:q=K.objects.length:=by omega
    obtain⟨aR,_⟩:=dD.out wr hW;obtain⟨yz,y0,y1,y2,y3,y4,y5,y6⟩:=aR;go_wp2;go_ret;exact⟨Pl.ae (by rw[l3.out,HQ.out]),fu.out⟩
 ·have HE:Hid (R=false):=by show R=false;rw[HR.out];simp[Dx]
  go_wp2;go_ret;exact⟨Pl.ae HE.out.symm,cN.out⟩
end Go.Proofs.YtbiokpmdghmgcaaGreat
