import Derived.Deep.DeepCutAuto
import Derived.Test.YtbiokpmdghmgcaaGreatBkT
import Derived.Test.YtbiokpmdghmgcaaGreatShR
namespace Go.Proofs.YtbiokpmdghmgcaaGreat
set_option maxRecDepth 8000
set_option maxHeartbeats 40000000
open Go.RowKit Go.Deep
def jb (ss:List Shp) (o:Ob):Bool:=aT ss o&&Pl.aq o.name&&Pl.aq o.team&&decide (o.holds.length≤3)&&Pl.asc o.holds&&(decide (0≤o.version)&&decide (o.version≤1000000))
theorem nK (ss:List Shp) (o:Ob):jb ss o=(aK ss o.kind&&(eD o&&decide (o.values.length=(ss.getD (aB ss o.kind) Shp.none).fields.length)&&eF o&&b9 o)):=by
 unfold jb aT eD eF b9;cases aK ss o.kind<;>cases Pl.aq o.name<;>cases Pl.aq o.team<;>cases decide (o.values.length=(ss.getD (aB ss o.kind) Shp.none).fields.length)<;>cases decide (o.holds.length≤3)<;>cases Pl.asc o.holds<;>cases decide (0≤o.version)<;>cases decide (o.version≤1000000)<;>rfl
theorem FI {ss:List Shp} {o:Ob} (fN:aN ss=true) (h:jb ss o=false):jn ss o=1∧jd ss o=0:=by
 rw[nK]at h;unfold jn jd dk dF;rw[fN];cases hk:aK ss o.kind
 ·simp
 ·rw[hk]at h;rw[Bool.true_and]at h;rw[h];simp
theorem CH {ss:List Shp} {o:Ob} (fN:aN ss=true) (h:jb ss o=true):jn ss o=dt (ss.getD (aB ss o.kind) Shp.none).fields o.values∧jd ss o=(if dt (ss.getD (aB ss o.kind) Shp.none).fields o.values=0 then 0 else eV (ss.getD (aB ss o.kind) Shp.none).fields o.values):=by
 rw[nK]at h;obtain⟨h1,h2⟩:=(Bool.and_eq_true _ _).mp h;unfold jn jd dk dF;rw[fN,h1,h2];simp
theorem te (B:Nat) (ss:List Shp) (o:Ob) (b1 c1 b2 c2:Nat) (w:World) (fN:aN ss=true) (h:bh w B ss) (ho:i7 w b1 b2 o) (hs:o.sized) (jr:∀ i,i<o.values.length→(o.values.getD i ByteArray.empty).size≤maxLen) (gX:∀ i,i<o.holds.length→(o.holds.getD i ByteArray.empty).size≤maxLen):
  Calls Tryz.prog 61 #[.slice (some ⟨B,0,none⟩) ss.length ss.length,.agg #[.string o.kind,.string o.name,.string o.team,.slice (some ⟨b1,0,none⟩) o.values.length c1,.bool o.ending,.slice (some ⟨b2,0,none⟩) o.holds.length c2,.int .i64 o.version]] w fun e w'=>e=.returned (.tuple #[.int .i64 (jn ss o:Nat),.int .i64 (jd ss o:Nat)])∧Bel w w':=by
 have HA:=hid (And.intro fN (And.intro h (And.intro ho (And.intro hs (And.intro jr gX)))));have hlv:=ho.len1;have hlh:=ho.len2;clear fN h ho hs jr gX;obtain⟨w1,eb⟩:∃ w1,w1=w.alloc (.cells #[.string o.kind,.string o.name,.string o.team,.slice (some ⟨b1,0,none⟩) o.values.length c1,.bool o.ending,.slice (some ⟨b2,0,none⟩) o.holds.length c2,.int .i64 o.version] 111):=⟨_,rfl⟩
 have HB:Hid (Bel w w1):=by show Below _ _ _;rw[eb];exact ab br _
 have HZ:Hid (w1.heap.size=w.heap.size+1):=by show _=_;rw[eb];simp
 have HK:Hid (w1.cell? ⟨w.heap.size,0,none⟩=some (.string o.kind)∧w1.cell? ⟨w.heap.size,1,none⟩=some (.string o.name)∧w1.cell? ⟨w.heap.size,2,none⟩=some (.string o.team)∧w1.cell? ⟨w.heap.size,3,none⟩=some (.slice (some ⟨b1,0,none⟩) o.values.length c1)∧w1.cell? ⟨w.heap.size,4,none⟩=some (.bool o.ending)∧w1.cell? ⟨w.heap.size,5,none⟩=some (.slice (some ⟨b2,0,none⟩) o.holds.length c2)∧w1.cell? ⟨w.heap.size,6,none⟩=some (.int .i64 o.version)):=by
  refine⟨?_, ?_, ?_, ?_, ?_, ?_, ?_⟩<;>(rw[eb];simp)
 obtain⟨k0,k1,k2,k3,k4,k5,k6⟩:=HK.out;have hz:w.heap.size<w1.heap.size:=by have:=HZ.out;omega
 obtain⟨cc,pD⟩:∃ cc,cc=jn ss o:=⟨_,rfl⟩
 obtain⟨cp,mQ⟩:∃ cp,cp=jd ss o:=⟨_,rfl⟩
 rw[← pD,← mQ];have HC:=hid (And.intro pD mQ);clear pD mQ;go_enter Tryz.func61,Tryz.ntmps61
 go_upto_region 1 with fail
 rw[← eb];clear eb;go_wp2_with fail
 refine(jx w B ss o _ _ _ _ w1 HA.out.2.1 HB.out).mono ?_;rintro e w2 ⟨a,n,c,rfl,kS,aA⟩;have iH:=hid aA;have Nb:=hid (aa HB.out aA);have gX:=lo hz aA.size;have o1:=(aA.cell (p:=⟨w.heap.size,1,none⟩) hz).trans k1;have o2:=(aA.cell (p:=⟨w.heap.size,2,none⟩) hz).trans k2;have o3:=(aA.cell (p:=⟨w.heap.size,3,none⟩) hz).trans k3;have o5:=(aA.cell (p:=⟨w.heap.size,5,none⟩) hz).trans k5;have o6:=(aA.cell (p:=⟨w.heap.size,6,none⟩) hz).trans k6;have KR:=hid o3;obtain⟨R,hR⟩:∃ R,R=aT ss o:=⟨_,rfl⟩
 rw[← hR]at kS ⊢;have nA:=hid kS;have HR:=hid hR;clear aA kS hR k0 k1 k2 k3 k4 k5 k6 hz o3;go_upto_region 2 with fail
 go_cut [46] (fun x wx=>x=.bool (!jb ss o)∧Bel w2 wx)
 case first=>
  have HT:Hid (jb ss o=(R&&Pl.aq o.name&&Pl.aq o.team&&decide (o.holds.length≤3)&&Pl.asc o.holds&&(decide (0≤o.version)&&decide (o.version≤1000000)))):=by rw[HR.out];rfl
  have HN1:=hid (And.intro HA.out.2.2.2.1.2.1 HA.out.2.2.2.1.2.2);have HAs:=hid (mK b2 c2 o.holds w2 HA.out.2.2.1.len2 (HA.out.2.2.1.later Nb.out).lt2 HA.out.2.2.2.2.2 (fun i hi=>by rw[Nat.zero_add];exact(HA.out.2.2.1.later Nb.out).at2 i hi));cases R
  ·go_wp2_with fail
   go_meet
   exact⟨by rw[HT.out];rfl,br⟩
  go_wp2_with fail
  refine(aG o.name _ HN1.out.1).mono ?_;rintro e w' ⟨rfl,rfl⟩;cases h1:Pl.aq o.name
  ·go_wp2_with fail
   go_meet
   exact⟨by rw[HT.out,h1];rfl,br⟩
  go_wp2_with fail
  refine(aG o.team _ HN1.out.2).mono ?_;rintro e w' ⟨rfl,rfl⟩;cases h2:Pl.aq o.team
  ·go_wp2_with fail
   go_meet
   exact⟨by rw[HT.out,h1,h2];rfl,br⟩
  by_cases h3:(o.holds.length:Int)≤3
  case neg=>
   have HD:Hid (decide (o.holds.length≤3)=false):=by show _=_;simp;omega
   go_wp2_with fail
   go_meet
   exact⟨by rw[HT.out,h1,h2,HD.out];rfl,br⟩
  have HD:Hid (decide (o.holds.length≤3)=true):=by show _=_;simp;omega
  have HD3:Hid (decide ((3:Int)<(o.holds.length:Int))=false):=by show _=_;simp;omega
  go_wp2_with fail
  refine HAs.out.mono ?_;rintro e w3 ⟨rfl,aO⟩;have p6:=(aO.cell (p:=⟨w.heap.size,6,none⟩) gX).trans o6;have xd:=lo gX aO.size;cases h4:Pl.asc o.holds
  ·go_wp2_with fail
   go_meet
   exact⟨by rw[HT.out,h1,h2,HD.out,h4];rfl,aO⟩
  go_wp2_with fail
  refine(bc o.version 0 1000000 _).mono ?_;rintro e w' ⟨rfl,rfl⟩;obtain⟨q,hq⟩:∃ q,q=(decide (0≤o.version)&&decide (o.version≤1000000)):=⟨_,rfl⟩
  rw[← hq]at HT ⊢;clear hq;go_wp2_with fail
  go_meet
  exact⟨by rw[HT.out,h1,h2,HD.out,h4,HD3.out];cases q<;>rfl,aO⟩
 case rest=>
 obtain⟨rfl,H7⟩:=hcut;rename World=>w3;have fO:=hid H7;have HW3:=hid (aa Nb.out H7);clear H7 o1 o2 o5 o6;cases hg:jb ss o
 ·have HE:=FI HA.out.1 hg;have pD:cc=1:=by rw[HC.out.1];exact HE.1
  have mQ:cp=0:=by rw[HC.out.2];exact HE.2
  subst pD mQ;clear HE;go_wp2;go_ret2;exact⟨rfl,HW3.out⟩
 have HE:Hid (cc=dt (ss.getD (aB ss o.kind) Shp.none).fields o.values∧cp=(if dt (ss.getD (aB ss o.kind) Shp.none).fields o.values=0 then 0 else eV (ss.getD (aB ss o.kind) Shp.none).fields o.values)):=by show _∧_;rw[HC.out.1,HC.out.2];exact CH HA.out.1 hg
 have M3:R=true:=by rw[HR.out];rw[jb]at hg;simp only[Bool.and_eq_true]at hg;exact hg.1.1.1.1.1
 obtain⟨b,e2,gW,ea⟩:=nA.out M3;have Jy:=HR.out.symm.trans M3;have tF:aB ss o.kind<ss.length:=by unfold aT aK at Jy;exact of_decide_eq_true ((Bool.and_eq_true _ _).mp Jy).1
 have hlen:o.values.length=(ss.getD (aB ss o.kind) Shp.none).fields.length:=by unfold aT at Jy;exact of_decide_eq_true ((Bool.and_eq_true _ _).mp Jy).2
 obtain⟨s,hs⟩:∃ s,s=ss.getD (aB ss o.kind) Shp.none:=⟨_,rfl⟩
 rw[← hs]at e2 ea HE hlen;injection e2 with e2 e3 e4
 subst e2 e3 e4;have dQ:s.small:=HA.out.2.1.small s (by rw[hs];simp[tF]);obtain⟨fs,GJ⟩:∃ fs,fs=s.fields:=⟨_,rfl⟩
 have jg:=dQ.1;have rG:Hid (bW w b fs):=by rw[GJ];exact⟨gW,dQ.1,dQ.2,ea⟩
 rw[← GJ]at HE hlen jg ⊢;have HLn:=hid hlen;clear hs dQ ea gW tF nA HC hg Jy GJ hlen M3;go_wp2;go_loopw [8] (fun i wr=>∃ k:Nat,k≤fs.length∧i=.int .i64 k∧k≤di fs o.values∧Bel w3 wr) (fun i _=>fs.length - (intOf i).toNat)
 case atStart=>exact⟨0,nz,rfl,nz,br⟩
 case round=>
  obtain⟨k,hk,rfl,iM,hW⟩:=hrel;have HN:=hid iM;have HW:=hid hW;have mo:=hid (aa HW3.out hW);clear iM;by_cases av:k<fs.length
  ·obtain⟨f,fH⟩:∃ f,f=fs.getD k Fld.none:=⟨_,rfl⟩
   obtain⟨bf,pT,dP⟩:=(rG.out.later mo.out).arg av fH;have Hd:k<o.values.length:=by rw[HLn.out];exact av
   have v0:=(HA.out.2.2.1.later mo.out).at1 k Hd;obtain⟨v,hv⟩:∃ v,v=o.values.getD k ByteArray.empty:=⟨_,rfl⟩
   rw[← hv]at v0;have HV:Hid (v.size≤maxLen):=by show v.size≤maxLen;rw[hv];exact HA.out.2.2.2.2.1 k Hd
   have cz:Hid (j3 fs o.values k=if v.toList.isEmpty=true then (if f.must=true then 2 else 0) else (if dC f v=true then 0 else 3)):=by show _=_;unfold j3;rw[← fH,← hv]
   have HM:Hid (j3 fs o.values k=0→k+1≤di fs o.values):=fun e=>k8 av HN.out e;have HH:Hid (∀ d:Nat,d≠0→j3 fs o.values k=d→cc=d∧cp=k):=by
    intro d hd e;have e1:=mf av HN.out (by rw[e];exact hd);rw[HE.out.1,HE.out.2];unfold dt eV;rw[e1,if_pos av,if_pos av,e,if_neg hd];exact⟨rfl,rfl⟩
   have bl:=(HA.out.2.2.1.later mo.out).lt1;have Jg:=(rG.out.later mo.out).lt;have Ke:=lo gX (aa fO.out hW).size;have k3:=((aa fO.out hW).cell (p:=⟨w.heap.size,3,none⟩) gX).trans KR.out;obtain⟨c0,c1',GF,c3,c4,c5,c6,c7,c8,c9,c10,_,_⟩:=dP;have G2:=hid pT;clear fH pT hv hW;cases he:v.toList.isEmpty
   ·have HX:=hid fun (W:World) (ml:Bel wr W)=>mH f bf v W HV.out (G2.out.later ml);cases hfit:dC f v
    ·obtain⟨pD,mQ⟩:=HH.out 3 (by decide) (by rw[cz.out,he,hfit];rfl);subst pD mQ;rw[hfit]at HX;go_wp2_with fail
     go_region_with (go_at_call 120;refine(HX.out _ ?_).mono ?_;(repeat(first|exact br|refine Below.drew ?_));rintro e w4 ⟨rfl,cA⟩)
     all_goals
      go_wp2;go_ret2;refine⟨rfl, ?_⟩;repeat(first|exact aa mo.out cA|exact aa mo.out.drew cA|exact aa mo.out.drew.drew cA|refine Below.drew ?_)
    ·have B6:=hid (HM.out (by rw[cz.out,he,hfit];rfl));rw[hfit]at HX;go_wp2_with fail
     go_region_with (go_at_call 120;refine(HX.out _ ?_).mono ?_;(repeat(first|exact br|refine Below.drew ?_));rintro e w4 ⟨rfl,cA⟩)
     all_goals
      go_wp2;go_roundw
      case rel=>
       first
       |refine⟨k+1,by omega,by go_num,B6.out, ?_⟩
       |((repeat apply Exists.intro);refine⟨⟨k+1,by omega,by go_num,B6.out, ?_⟩,rfl⟩)
       repeat(first|exact aa HW.out cA|exact aa HW.out.drew cA|exact aa HW.out.drew.drew cA|refine Below.drew ?_)
      case measure=>simp[intOf];omega
   ·cases hmu:f.must
    ·have B6:=hid (HM.out (by rw[cz.out,he,hmu];rfl));go_wp2;go_roundw
     case rel=>first|exact⟨k+1,by omega,by go_num,B6.out,HW.out⟩|((repeat apply Exists.intro);exact⟨⟨k+1,by omega,by go_num,B6.out,HW.out⟩,rfl⟩)
     case measure=>simp[intOf];omega
    ·obtain⟨pD,mQ⟩:=HH.out 2 (by decide) (by rw[cz.out,he,hmu];rfl);subst pD mQ;go_wp2;go_ret2;exact⟨rfl,mo.out⟩
  ·have e0:dt fs o.values=0:=by unfold dt;rw[if_neg (by have:=HN.out;omega)]
   have pD:cc=0:=by rw[HE.out.1];exact e0
   have mQ:cp=0:=by rw[HE.out.2,e0];rfl
   subst pD mQ;go_wp2;go_ret2;exact⟨rfl,mo.out⟩
set_option maxRecDepth 8000
set_option maxHeartbeats 40000000
open Go.RowKit Go.Deep
def eW (L:Lw) (K:Bk) (i:Nat):Bool:=cF (fun j=>p8 (K.objects.getD j Ob.none) (K.objects.getD (j+1) Ob.none)) i&&cM L K i
theorem uo (L:Lw) (K:Bk):ef L K=(decide (K.objects.length≤40)&&aC (eW L K) K.objects.length):=by
 have e:aC (eW L K) K.objects.length=(jB K.objects&&aC (cM L K) K.objects.length):=by
  unfold eW;rw[iq,iG];rfl
 rw[e];unfold ef;cases decide (K.objects.length≤40)<;>rfl
theorem wB (L:Lw) (o:Ob) (fN:aN L.shapes=true):(decide (jn L.shapes o=0))=(aK L.shapes o.kind&&decide (dk (fieldsOf L o) o=0)):=by
 unfold jn fieldsOf;rw[fN];cases aK L.shapes o.kind<;>simp
theorem nW {fs:List Fld} {o:Ob} (h:dk fs o=0):o.values.length=fs.length:=by
 unfold dk at h;split at h
 ·rename_i hh
  simp only[Bool.and_eq_true,decide_eq_true_eq]at hh;exact hh.1.1.2
 ·cases h
theorem tR (L:Lw) (K:Bk) (a0 a1 a2 e0 e1 e2 e3:Nat) (w:World) (hL:fT w a0 a1 a2 L) (hK:fG w e0 e1 e2 e3 K) (kS:aN L.shapes=true) (EG:aU L.shapes L.mends=true):
  Calls Tryz.prog 26 #[.agg #[.slice (some ⟨a0,0,none⟩) L.shapes.length L.shapes.length,.slice (some ⟨a1,0,none⟩) L.mends.length L.mends.length,.slice (some ⟨a2,0,none⟩) L.teams.length L.teams.length],.agg #[.int .i64 K.now,.int .i64 K.tick,.int .i64 K.given,.slice (some ⟨e0,0,none⟩) K.objects.length K.objects.length,.slice (some ⟨e1,0,none⟩) K.grants.length K.grants.length,.slice (some ⟨e2,0,none⟩) K.ledgers.length K.ledgers.length,.slice (some ⟨e3,0,none⟩) K.purses.length K.purses.length]] w fun e w'=>e=.returned (.bool (ef L K))∧Bel w w':=by
 have HA:=hid (And.intro hL (And.intro hK (And.intro kS EG)));have hl:=hK.o.len;rw[uo];obtain⟨R,hR⟩:∃ R,R=(decide (K.objects.length≤40)&&aC (eW L K) K.objects.length):=⟨_,rfl⟩
 have HR:=hid hR;rw[← hR];clear hK hL hR kS EG;obtain⟨w1,eb⟩:∃ w1,w1=(w.alloc (.cells #[.slice (some ⟨a0,0,none⟩) L.shapes.length L.shapes.length,.slice (some ⟨a1,0,none⟩) L.mends.length L.mends.length,.slice (some ⟨a2,0,none⟩) L.teams.length L.teams.length] 40)).alloc (.cells #[.int .i64 K.now,.int .i64 K.tick,.int .i64 K.given,.slice (some ⟨e0,0,none⟩) K.objects.length K.objects.length,.slice (some ⟨e1,0,none⟩) K.grants.length K.grants.length,.slice (some ⟨e2,0,none⟩) K.ledgers.length K.ledgers.length,.slice (some ⟨e3,0,none⟩) K.purses.length K.purses.length] 47):=⟨_,rfl⟩
 have cQ:Hid (Bel w w1):=by show Below _ _ _;rw[eb];exact ab (ab br _) _
 have dE:Hid (∀ W,Bel w1 W→bd W (w.heap.size+1) (.int .i64 K.now) (.int .i64 K.tick) (.int .i64 K.given) (.slice (some ⟨e0,0,none⟩) K.objects.length K.objects.length) (.slice (some ⟨e1,0,none⟩) K.grants.length K.grants.length) (.slice (some ⟨e2,0,none⟩) K.ledgers.length K.ledgers.length) (.slice (some ⟨e3,0,none⟩) K.purses.length K.purses.length)∧bC W w.heap.size (.slice (some ⟨a0,0,none⟩) L.shapes.length L.shapes.length) (.slice (some ⟨a1,0,none⟩) L.mends.length L.mends.length) (.slice (some ⟨a2,0,none⟩) L.teams.length L.teams.length)):=by
  have q:bd w1 (w.heap.size+1) (.int .i64 K.now) (.int .i64 K.tick) (.int .i64 K.given) (.slice (some ⟨e0,0,none⟩) K.objects.length K.objects.length) (.slice (some ⟨e1,0,none⟩) K.grants.length K.grants.length) (.slice (some ⟨e2,0,none⟩) K.ledgers.length K.ledgers.length) (.slice (some ⟨e3,0,none⟩) K.purses.length K.purses.length)∧bC w1 w.heap.size (.slice (some ⟨a0,0,none⟩) L.shapes.length L.shapes.length) (.slice (some ⟨a1,0,none⟩) L.mends.length L.mends.length) (.slice (some ⟨a2,0,none⟩) L.teams.length L.teams.length):=by rw[eb];exact⟨bd.bp _ _ _ _ _ _ _ _ _ _ (by simp),(bC.bp w _ _ _ _ _ rfl).cy _⟩
  intro W hW;exact⟨q.1.later hW,q.2.later hW⟩
 go_enter Tryz.func26,Tryz.ntmps26
 go_upto_region 1 with fail
 rw[← eb];clear eb;obtain⟨aS,_⟩:=dE.out w1 br;obtain⟨yz,y0,y1,y2,y3,y4,y5,y6⟩:=aS;by_cases EA:K.objects.length≤40
 ·have mm:Hid (R=aC (eW L K) K.objects.length):=by show R=_;rw[HR.out];simp[EA]
  go_wp2;clear yz y0 y1 y2 y3 y4 y5 y6 EA;go_loopw [5] (fun i wr=>∃ q:Nat,q≤K.objects.length∧i=.int .i64 q∧aC (eW L K) q=true∧Bel w1 wr) (fun i _=>K.objects.length - (intOf i).toNat)
  case atStart=>exact⟨0,nz,rfl,rfl,br⟩
  case round=>
   obtain⟨q,hq,rfl,ha,hW⟩:=hrel;have HQ:=hid ha;have fw:=hid (aa cQ.out hW);clear ha;by_cases av:q<K.objects.length
   ·by_cases h0:q=0
    ·subst h0;obtain⟨x,hx⟩:∃ x,x=K.objects.getD (0) Ob.none:=⟨_,rfl⟩
     have bA:=(HA.out.2.1.later fw.out).o;have gJ:=bA.lt;have dO:=bA.at_ (0) av;rw[← hx]at dO;obtain⟨b1,b2,_,c0,c1,c2,c3,c4,c5,c6,tA⟩:=dO;obtain⟨w4,eo⟩:∃ w4,w4=wr.alloc (.cells #[.string x.kind,.string x.name,.string x.team,.slice (some ⟨b1,0,none⟩) x.values.length x.values.length,.bool x.ending,.slice (some ⟨b2,0,none⟩) x.holds.length x.holds.length,.int .i64 x.version] 111):=⟨_,rfl⟩
     obtain⟨E,hE⟩:∃ E,E=wr.heap.size:=⟨_,rfl⟩
     have dD:Bel wr w4:=by rw[eo];exact ab br _
     have js:=hid (aa hW dD);have aZ:=hid (aa fw.out dD);have kR:Hid (∀ W,Bel w4 W→kV W b1 b2 x):=fun W bG=>(tA.later dD).later bG;have pn:Hid (∀ W,Bel w4 W→(bd W (w.heap.size+1) (.int .i64 K.now) (.int .i64 K.tick) (.int .i64 K.given) (.slice (some ⟨e0,0,none⟩) K.objects.length K.objects.length) (.slice (some ⟨e1,0,none⟩) K.grants.length K.grants.length) (.slice (some ⟨e2,0,none⟩) K.ledgers.length K.ledgers.length) (.slice (some ⟨e3,0,none⟩) K.purses.length K.purses.length)∧bC W w.heap.size (.slice (some ⟨a0,0,none⟩) L.shapes.length L.shapes.length) (.slice (some ⟨a1,0,none⟩) L.mends.length L.mends.length) (.slice (some ⟨a2,0,none⟩) L.teams.length L.teams.length))∧aM W E #[.string x.kind,.string x.name,.string x.team,.slice (some ⟨b1,0,none⟩) x.values.length x.values.length,.bool x.ending,.slice (some ⟨b2,0,none⟩) x.holds.length x.holds.length,.int .i64 x.version]):=fun W bG=>⟨dE.out W (aa js.out bG),aM.later (by rw[eo];exact aM.bp _ _ _ _ hE) bG⟩
     have EB:Hid (∀ W,Bel w4 W→e0<W.heap.size):=fun W bG=>lo gJ (aa dD bG).size;obtain⟨cc,pD⟩:∃ cc,cc=jn L.shapes x:=⟨_,rfl⟩
     obtain⟨cp,mQ⟩:∃ cp,cp=jd L.shapes x:=⟨_,rfl⟩
     have GC:Hid (∀ W,Bel w4 W→Calls Tryz.prog 61 #[.slice (some ⟨a0,0,none⟩) L.shapes.length L.shapes.length,.agg #[.string x.kind,.string x.name,.string x.team,.slice (some ⟨b1,0,none⟩) x.values.length x.values.length,.bool x.ending,.slice (some ⟨b2,0,none⟩) x.holds.length x.holds.length,.int .i64 x.version]] W fun e w'=>e=.returned (.tuple #[.int .i64 (cc:Nat),.int .i64 (cp:Nat)])∧Bel W w'):=fun W bG=>by
      rw[pD,mQ];have fu:=aa aZ.out bG;exact te a0 L.shapes x b1 _ b2 _ W HA.out.2.2.1 (HA.out.1.later fu).s (kR.out W bG).arg (kR.out W bG).sized (kR.out W bG).z1 (kR.out W bG).z2
     have JB:Hid (decide (cc=0)=(aK L.shapes x.kind&&decide (dk (fieldsOf L x) x=0))):=by rw[pD];exact wB L x HA.out.2.2.1
     clear pD mQ;obtain⟨t1,yI⟩:∃ t1,t1=(bB L.teams x.team):=⟨_,rfl⟩
     have GX:Hid (∀ W,Bel w4 W→Calls Tryz.prog 62 #[.slice (some ⟨a2,0,none⟩) L.teams.length L.teams.length,.string x.team] W fun e w'=>e=.returned (.bool t1)∧W=w'):=fun W bG=>by
      rw[yI];have fu:=aa aZ.out bG;exact iF a2 L.teams x.team W (HA.out.1.later fu).t
     obtain⟨t3,BS⟩:∃ t3,t3=(within x.version 1 K.now):=⟨_,rfl⟩
     have Gd:Hid (∀ W,Bel w4 W→Calls Tryz.prog 25 #[.int .i64 x.version,.int .i64 1,.int .i64 K.now] W fun e w'=>e=.returned (.bool t3)∧W=w'):=fun W bG=>by
      rw[BS];have fu:=aa aZ.out bG;exact bc _ _ _ W
     obtain⟨sv,wV⟩:∃ sv,sv=bM L.shapes L.mends x:=⟨_,rfl⟩
     have BB:Hid (∀ W,Bel w4 W→Calls Tryz.prog 65 #[.slice (some ⟨a0,0,none⟩) L.shapes.length L.shapes.length,.slice (some ⟨a1,0,none⟩) L.mends.length L.mends.length,.agg #[.string x.kind,.string x.name,.string x.team,.slice (some ⟨b1,0,none⟩) x.values.length x.values.length,.bool x.ending,.slice (some ⟨b2,0,none⟩) x.holds.length x.holds.length,.int .i64 x.version]] W fun e w'=>∃ v0 v1 v2 g1 n1 f1 v4 v5 v6,e=.returned (.agg #[v0,v1,v2,.slice g1 n1 f1,v4,v5,v6])∧(n1=sv.length∧TxG w' g1 f1 sv)∧Bel W w'):=fun W bG=>by
      have fu:=aa aZ.out bG;refine(ql a0 a1 L.shapes L.mends x _ _ _ _ W (HA.out.1.later fu).s (HA.out.1.later fu).m HA.out.2.2.2 ((kR.out W bG).arg.g _ _)).mono ?_;rintro e w' ⟨⟨g1,n1,f1,g2,n2,f2,mid,rfl,h1,_,_,_⟩,hb⟩;rw[← wV]at h1;exact⟨_,_,_,_,_,_,_,_,_,rfl,h1.g,hb⟩
     have Cr:Hid (sv.length≤1048576∧x.values.length≤1048576):=by
      have:=(kR.out w4 br).arg.len1;refine⟨?_,this⟩;rw[wV,jk];exact this
     obtain⟨sm,dQ⟩:∃ sm,sm=ee sv x.values:=⟨_,rfl⟩
     have BH:Hid (∀ W (g1:Option Addr) (n1 f1:Nat),Bel w4 W→(n1=sv.length∧TxG W g1 f1 sv)→Calls Tryz.prog 64 #[.slice g1 n1 f1,.slice (some ⟨b1,0,none⟩) x.values.length x.values.length] W fun e w'=>e=.returned (.bool sm)∧Bel W w'):=fun W g1 n1 f1 bG hg=>by
      rw[dQ];exact Et g1 n1 f1 b1 _ sv x.values W Cr.out.1 Cr.out.2 hg.1 hg.2 (kR.out W bG).arg.lt1 (kR.out W bG).arg.at1
     have HP:Hid (eW L K (0)=(true&&(decide (cc=0)&&t1&&t3&&sm&&aC (cG K (fieldsOf L x) x.values) (fieldsOf L x).length))):=by
      show (cF _ (0)&&cM L K (0))=_;unfold cM gS;rw[JB.out,← hx,← wV,← dQ,← yI,← BS];show (true&&_)=_;rfl
     have HF:Hid ((true&&(decide (cc=0)&&t1&&t3&&sm&&aC (cG K (fieldsOf L x) x.values) (fieldsOf L x).length))=false→R=false):=fun hh=>by rw[mm.out];exact ba av (HP.out.trans hh)
     have HT:Hid ((true&&(decide (cc=0)&&t1&&t3&&sm&&aC (cG K (fieldsOf L x) x.values) (fieldsOf L x).length))=true→aC (eW L K) (0+1)=true):=fun hh=>aV HQ.out (HP.out.trans hh);clear yI BS wV dQ hx bA tA;obtain⟨pA,_⟩:=dE.out wr hW;obtain⟨yz,y0,y1,y2,y3,y4,y5,y6⟩:=pA;go_upto_region 7 with fail
     rw[← eo,← hE];clear eo hE yz y0 y1 y2 y3 y4 y5 y6 hW c0 c1 c2 c3 c4 c5 c6 dD gJ;obtain⟨⟨aS,bD⟩,ao⟩:=pn.out w4 br;obtain⟨yz,y0,y1,y2,y3,y4,y5,y6⟩:=aS;obtain⟨lz,l0,l1,l2⟩:=bD;have ez:=ao.lt;have x0:w4.cell? ⟨E,0,none⟩=some (.string x.kind):=ao.at_ 0;have x1:w4.cell? ⟨E,1,none⟩=some (.string x.name):=ao.at_ 1;have x2:w4.cell? ⟨E,2,none⟩=some (.string x.team):=ao.at_ 2;have x3:w4.cell? ⟨E,3,none⟩=some (.slice (some ⟨b1,0,none⟩) x.values.length x.values.length):=ao.at_ 3;have x4:w4.cell? ⟨E,4,none⟩=some (.bool x.ending):=ao.at_ 4;have x5:w4.cell? ⟨E,5,none⟩=some (.slice (some ⟨b2,0,none⟩) x.holds.length x.holds.length):=ao.at_ 5;have x6:w4.cell? ⟨E,6,none⟩=some (.int .i64 x.version):=ao.at_ 6;clear ao;go_wp2_with fail
     refine(GC.out w4 br).mono ?_;rintro e w5 ⟨rfl,gI⟩;have ru:=hid gI;clear yz y0 y1 y2 y3 y4 y5 y6 lz l0 l1 l2 ez x0 x1 x2 x3 x4 x5 x6;clear gI;obtain⟨⟨aS,bD⟩,ao⟩:=pn.out w5 ru.out;obtain⟨yz,y0,y1,y2,y3,y4,y5,y6⟩:=aS;obtain⟨lz,l0,l1,l2⟩:=bD;have ez:=ao.lt;have x0:w5.cell? ⟨E,0,none⟩=some (.string x.kind):=ao.at_ 0;have x1:w5.cell? ⟨E,1,none⟩=some (.string x.name):=ao.at_ 1;have x2:w5.cell? ⟨E,2,none⟩=some (.string x.team):=ao.at_ 2;have x3:w5.cell? ⟨E,3,none⟩=some (.slice (some ⟨b1,0,none⟩) x.values.length x.values.length):=ao.at_ 3;have x4:w5.cell? ⟨E,4,none⟩=some (.bool x.ending):=ao.at_ 4;have x5:w5.cell? ⟨E,5,none⟩=some (.slice (some ⟨b2,0,none⟩) x.holds.length x.holds.length):=ao.at_ 5;have x6:w5.cell? ⟨E,6,none⟩=some (.int .i64 x.version):=ao.at_ 6;clear ao;by_cases vv:cc=0
     ·have ry:=hid (decide_eq_true vv);have DS:(cc:Int)=0:=by omega
      go_wp2_with fail
      refine(GX.out w5 ru.out).mono ?_;rintro e w7 ⟨rfl,rfl⟩;cases t1
      ·go_wp2;go_ret;exact⟨Pl.ae (HF.out (by simp)).symm,aa aZ.out ru.out⟩
      ·go_wp2_with fail
       refine(Gd.out w5 ru.out).mono ?_;rintro e w7 ⟨rfl,rfl⟩;cases t3
       ·go_wp2;go_ret;exact⟨Pl.ae (HF.out (by simp)).symm,aa aZ.out ru.out⟩
       ·have tE:=dR w5;have JE:∀ px:Pst w5,E<px.W.heap.size:=fun px=>px.size ez;have KA:∀ px:Pst w5,w.heap.size+1<px.W.heap.size:=fun px=>px.size yz;have Y0:∀ px:Pst w5,px.W.cell? ⟨w.heap.size+1,0,none⟩=some (.int .i64 K.now):=fun px=>px.cell y0 yz;have Y1:∀ px:Pst w5,px.W.cell? ⟨w.heap.size+1,1,none⟩=some (.int .i64 K.tick):=fun px=>px.cell y1 yz;have Y2:∀ px:Pst w5,px.W.cell? ⟨w.heap.size+1,2,none⟩=some (.int .i64 K.given):=fun px=>px.cell y2 yz;have Y3:∀ px:Pst w5,px.W.cell? ⟨w.heap.size+1,3,none⟩=some (.slice (some ⟨e0,0,none⟩) K.objects.length K.objects.length):=fun px=>px.cell y3 yz;have Y4:∀ px:Pst w5,px.W.cell? ⟨w.heap.size+1,4,none⟩=some (.slice (some ⟨e1,0,none⟩) K.grants.length K.grants.length):=fun px=>px.cell y4 yz;have Y5:∀ px:Pst w5,px.W.cell? ⟨w.heap.size+1,5,none⟩=some (.slice (some ⟨e2,0,none⟩) K.ledgers.length K.ledgers.length):=fun px=>px.cell y5 yz;have Y6:∀ px:Pst w5,px.W.cell? ⟨w.heap.size+1,6,none⟩=some (.slice (some ⟨e3,0,none⟩) K.purses.length K.purses.length):=fun px=>px.cell y6 yz;have X0:∀ px:Pst w5,px.W.cell? ⟨E,0,none⟩=some (.string x.kind):=fun px=>px.cell x0 ez;have X1:∀ px:Pst w5,px.W.cell? ⟨E,1,none⟩=some (.string x.name):=fun px=>px.cell x1 ez;go_wp2_with fail
        refine au w5 br (by kernel_rfl) (by kernel_rfl) ?_;repeat(first
         |go_big_quiet_skip
         |(go_big_quiet_want;go_big_quiet_op;first|go_big_quiet_on|fail))
        refine wpQuiet_nil ?_;intro _ dN;obtain⟨pw,aX⟩:=dN;subst aX;clear yz y0 y1 y2 y3 y4 y5 y6 lz l0 l1 l2 ez x0 x1 x2 x3 x4 x5 x6 tE JE KA Y0 Y1 Y2 Y3 Y4 Y5 Y6 X0 X1;have Hm:=hid (aa ru.out pw.ok);generalize pw.W=w6 at*;obtain⟨⟨aS,bD⟩,ao⟩:=pn.out w6 Hm.out;obtain⟨yz,y0,y1,y2,y3,y4,y5,y6⟩:=aS;obtain⟨lz,l0,l1,l2⟩:=bD;have ez:=ao.lt;have x0:w6.cell? ⟨E,0,none⟩=some (.string x.kind):=ao.at_ 0;have x1:w6.cell? ⟨E,1,none⟩=some (.string x.name):=ao.at_ 1;have x2:w6.cell? ⟨E,2,none⟩=some (.string x.team):=ao.at_ 2;have x3:w6.cell? ⟨E,3,none⟩=some (.slice (some ⟨b1,0,none⟩) x.values.length x.values.length):=ao.at_ 3;have x4:w6.cell? ⟨E,4,none⟩=some (.bool x.ending):=ao.at_ 4;have x5:w6.cell? ⟨E,5,none⟩=some (.slice (some ⟨b2,0,none⟩) x.holds.length x.holds.length):=ao.at_ 5;have x6:w6.cell? ⟨E,6,none⟩=some (.int .i64 x.version):=ao.at_ 6;clear ao;go_wp2_with fail
        refine jf w4 Hm.out (VSh w.heap.size E (.slice (some ⟨a0,0,none⟩) L.shapes.length L.shapes.length) (.slice (some ⟨a1,0,none⟩) L.mends.length L.mends.length) (.agg #[.string x.kind,.string x.name,.string x.team,.slice (some ⟨b1,0,none⟩) x.values.length x.values.length,.bool x.ending,.slice (some ⟨b2,0,none⟩) x.holds.length x.holds.length,.int .i64 x.version]) (.slice (some ⟨b1,0,none⟩) x.values.length x.values.length) sv sm) (oz _ _ _ _ _ _ _ _) (by kernel_rfl) (by kernel_rfl) (by kernel_rfl) (by kernel_rfl) ?_ ?_
        ·intro i o ho a W hW hk hd;obtain⟨⟨aS,bD⟩,ao⟩:=pn.out W hW;obtain⟨lz,l0,l1,l2⟩:=bD;have ez:=ao.lt;have x0:W.cell? ⟨E,0,none⟩=some (.string x.kind):=ao.at_ 0;have x1:W.cell? ⟨E,1,none⟩=some (.string x.name):=ao.at_ 1;have x2:W.cell? ⟨E,2,none⟩=some (.string x.team):=ao.at_ 2;have x3:W.cell? ⟨E,3,none⟩=some (.slice (some ⟨b1,0,none⟩) x.values.length x.values.length):=ao.at_ 3;have x4:W.cell? ⟨E,4,none⟩=some (.bool x.ending):=ao.at_ 4;have x5:W.cell? ⟨E,5,none⟩=some (.slice (some ⟨b2,0,none⟩) x.holds.length x.holds.length):=ao.at_ 5;have x6:W.cell? ⟨E,6,none⟩=some (.int .i64 x.version):=ao.at_ 6;have etl:a.tmps[2]?.getD undef=.pointer (some ⟨w.heap.size,0,none⟩):=(ay a 2).trans ((hk 2 rfl).trans rfl);have eto:a.tmps[6]?.getD undef=.pointer (some ⟨E,0,none⟩):=(ay a 6).trans ((hk 6 rfl).trans rfl);match i,ho with
         |0,ho=>
          injection ho with ho;subst ho
          exact Or.inl ⟨_,W,by simp[execOp,go_sem,etl],br,rfl⟩
         |1,ho=>
          injection ho with ho;subst ho
          have e0:a.tmps[77]?.getD undef=_:=(ay a 77).trans (hd 0 _ 77 rfl rfl ⟨⟨0,.data⟩,by simp,rfl,rfl⟩);exact Or.inl ⟨_,W,by simp[execOp,go_sem,e0,l0],br,rfl⟩
         |2,ho=>
          injection ho with ho;subst ho
          exact Or.inl ⟨_,W,by simp[execOp,go_sem,etl],br,rfl⟩
         |3,ho=>
          injection ho with ho;subst ho
          have e0:a.tmps[79]?.getD undef=_:=(ay a 79).trans (hd 2 _ 79 rfl rfl ⟨⟨2,.data⟩,by simp,rfl,rfl⟩);exact Or.inl ⟨_,W,by simp[execOp,go_sem,e0,l1],br,rfl⟩
         |4,ho=>
          injection ho with ho;subst ho
          exact Or.inl ⟨_,W,by simp[execOp,go_sem,eto,x0,x1,x2,x3,x4,x5,x6],br,rfl⟩
         |5,ho=>
          injection ho with ho;subst ho
          have e0:a.tmps[78]?.getD undef=_:=(ay a 78).trans (hd 1 _ 78 rfl rfl ⟨⟨1,.data⟩,by simp,rfl,rfl⟩);have e1:a.tmps[80]?.getD undef=_:=(ay a 80).trans (hd 3 _ 80 rfl rfl ⟨⟨3,.data⟩,by simp,rfl,rfl⟩);have e2:a.tmps[81]?.getD undef=_:=(ay a 81).trans (hd 4 _ 81 rfl rfl ⟨⟨4,.data⟩,by simp,rfl,rfl⟩);refine Or.inr ⟨65,#[.slice (some ⟨a0,0,none⟩) L.shapes.length L.shapes.length,.slice (some ⟨a1,0,none⟩) L.mends.length L.mends.length,.agg #[.string x.kind,.string x.name,.string x.team,.slice (some ⟨b1,0,none⟩) x.values.length x.values.length,.bool x.ending,.slice (some ⟨b2,0,none⟩) x.holds.length x.holds.length,.int .i64 x.version]],by simp[go_sem,e0,e1,e2],(BB.out W hW).mono ?_⟩;rintro e W' ⟨v0,v1,v2,g1,n1,f1,v4,v5,v6,rfl,hg,hb⟩;exact⟨_,rfl,hb,v0,v1,v2,g1,n1,f1,v4,v5,v6,rfl,hg⟩
         |6,ho=>
          injection ho with ho;subst ho
          obtain⟨v0,v1,v2,g1,n1,f1,v4,v5,v6,e0,hg⟩:=(hd 5 _ 82 rfl rfl ⟨⟨5,.data⟩,by simp,rfl,rfl⟩)
          have e0:=(ay a 82).trans e0;exact Or.inl ⟨.slice g1 n1 f1,W,by simp[execOp,go_sem,e0,lx],br,g1,n1,f1,rfl,hg⟩
         |7,ho=>
          injection ho with ho;subst ho
          exact Or.inl ⟨_,W,by simp[execOp,go_sem,eto],br,rfl⟩
         |8,ho=>
          injection ho with ho;subst ho
          have e0:a.tmps[84]?.getD undef=_:=(ay a 84).trans (hd 7 _ 84 rfl rfl ⟨⟨7,.data⟩,by simp,rfl,rfl⟩);exact Or.inl ⟨_,W,by simp[execOp,go_sem,e0,x3],br,rfl⟩
         |9,ho=>
          injection ho with ho;subst ho
          obtain⟨g1,n1,f1,e0,hg⟩:=(hd 6 _ 83 rfl rfl ⟨⟨6,.data⟩,by simp,rfl,rfl⟩)
          have e0:=(ay a 83).trans e0;have e1:a.tmps[85]?.getD undef=_:=(ay a 85).trans (hd 8 _ 85 rfl rfl ⟨⟨8,.data⟩,by simp,rfl,rfl⟩);refine Or.inr ⟨64,#[.slice g1 n1 f1,.slice (some ⟨b1,0,none⟩) x.values.length x.values.length],by simp[go_sem,e0,e1],(BH.out W g1 n1 f1 hW hg).mono ?_⟩;rintro e W' ⟨rfl,hb⟩;exact⟨_,rfl,hb,rfl⟩
         |10,ho=>
          injection ho with ho;subst ho
          have e0:a.tmps[86]?.getD undef=_:=(ay a 86).trans (hd 9 _ 86 rfl rfl ⟨⟨9,.data⟩,by simp,rfl,rfl⟩);exact Or.inl ⟨.bool (!sm),W,by simp[execOp,go_sem,e0],br,rfl⟩
         |n+11,ho=>simp at ho
        ·intro w9 vs Cp nj;have elast:vs 87=.bool (!sm):=nj 10 _ 87 rfl rfl;simp only[eu,Act.put,List.setIfInBounds_toArray,List.set_cons_zero,List.set_cons_succ];rw[elast];generalize vs 77=s77;generalize vs 78=s78;generalize vs 79=s79;generalize vs 80=s80;generalize vs 81=s81;generalize vs 82=s82;generalize vs 83=s83;generalize vs 84=s84;generalize vs 85=s85;generalize vs 86=s86;clear nj elast;clear yz y0 y1 y2 y3 y4 y5 y6 lz l0 l1 l2 ez x0 x1 x2 x3 x4 x5 x6;have xh:=hid Cp;clear Cp;cases sm
         ·obtain⟨⟨aS,bD⟩,ao⟩:=pn.out w9 xh.out;obtain⟨yz,y0,y1,y2,y3,y4,y5,y6⟩:=aS;obtain⟨lz,l0,l1,l2⟩:=bD;have ez:=ao.lt;have x0:w9.cell? ⟨E,0,none⟩=some (.string x.kind):=ao.at_ 0;have x1:w9.cell? ⟨E,1,none⟩=some (.string x.name):=ao.at_ 1;have x2:w9.cell? ⟨E,2,none⟩=some (.string x.team):=ao.at_ 2;have x3:w9.cell? ⟨E,3,none⟩=some (.slice (some ⟨b1,0,none⟩) x.values.length x.values.length):=ao.at_ 3;have x4:w9.cell? ⟨E,4,none⟩=some (.bool x.ending):=ao.at_ 4;have x5:w9.cell? ⟨E,5,none⟩=some (.slice (some ⟨b2,0,none⟩) x.holds.length x.holds.length):=ao.at_ 5;have x6:w9.cell? ⟨E,6,none⟩=some (.int .i64 x.version):=ao.at_ 6;clear ao;go_wp2;go_ret;exact⟨Pl.ae (HF.out (by simp)).symm,aa aZ.out xh.out⟩
         ·obtain⟨⟨aS,bD⟩,ao⟩:=pn.out w9 xh.out;obtain⟨yz,y0,y1,y2,y3,y4,y5,y6⟩:=aS;obtain⟨lz,l0,l1,l2⟩:=bD;have ez:=ao.lt;have x0:w9.cell? ⟨E,0,none⟩=some (.string x.kind):=ao.at_ 0;have x1:w9.cell? ⟨E,1,none⟩=some (.string x.name):=ao.at_ 1;have x2:w9.cell? ⟨E,2,none⟩=some (.string x.team):=ao.at_ 2;have x3:w9.cell? ⟨E,3,none⟩=some (.slice (some ⟨b1,0,none⟩) x.values.length x.values.length):=ao.at_ 3;have x4:w9.cell? ⟨E,4,none⟩=some (.bool x.ending):=ao.at_ 4;have x5:w9.cell? ⟨E,5,none⟩=some (.slice (some ⟨b2,0,none⟩) x.holds.length x.holds.length):=ao.at_ 5;have x6:w9.cell? ⟨E,6,none⟩=some (.int .i64 x.version):=ao.at_ 6;clear ao;have JC:Hid (aT L.shapes x=true∧x.values.length=(fieldsOf L x).length):=by
           have h:=JB.out;rw[ry.out]at h;have h2:=(Bool.and_eq_true _ _).mp h.symm;have h3:=nW (of_decide_eq_true h2.2);refine⟨?_,h3⟩;unfold aT;rw[h2.1];exact decide_eq_true h3
          obtain⟨fs,ea⟩:∃ fs,fs=fieldsOf L x:=⟨_,rfl⟩
          have B3:Hid (Calls Tryz.prog 66 #[.slice (some ⟨a0,0,none⟩) L.shapes.length L.shapes.length,.agg #[.string x.kind,.string x.name,.string x.team,.slice (some ⟨b1,0,none⟩) x.values.length x.values.length,.bool x.ending,.slice (some ⟨b2,0,none⟩) x.holds.length x.holds.length,.int .i64 x.version]] w9 fun e w'=>∃ b hf,e=.returned (.tuple #[.slice (some ⟨b,0,none⟩) fs.length fs.length,.bool hf])∧b<w.heap.size∧(∀ i,i<fs.length→bx w b (i*11) (fs.getD i Fld.none))∧Bel w9 w'):=by
           show Calls _ _ _ _ _;refine(jx w a0 L.shapes x _ _ _ _ w9 HA.out.1.s (aa aZ.out xh.out)).mono ?_;rintro e w' ⟨a,n,c,rfl,h,hb⟩;obtain⟨b,hv,gW,jg⟩:=h JC.out.1;injection hv with pE rJ pR
           subst pE rJ pR;rw[ea];exact⟨b,_,rfl,gW,jg,hb⟩
          have pz:Hid (fs=fieldsOf L x∧x.values.length=fs.length):=⟨ea,by rw[ea];exact JC.out.2⟩
          have jg:fs.length≤1048576:=by rw[← pz.out.2];exact Cr.out.2
          clear ea;go_wp2_with fail
          refine B3.out.mono ?_;rintro e GM ⟨b,hf,rfl,gW,cq,BL⟩;have rE:=hid (aa xh.out BL);have Gc:=hid (And.intro gW cq);clear gW cq BL B3;clear yz y0 y1 y2 y3 y4 y5 y6 lz l0 l1 l2 ez x0 x1 x2 x3 x4 x5 x6;have GL:Hid (aC (cG K fs x.values) fs.length=false→R=false):=fun hh=>HF.out (by rw[pz.out.1]at hh;rw[hh];simp);have nI:Hid (aC (cG K fs x.values) fs.length=true→aC (eW L K) (0+1)=true):=fun hh=>HT.out (by rw[pz.out.1]at hh;simp[hh,ry.out]);go_wp2;go_loopw [11] (fun i wr2=>∃ k:Nat,k≤fs.length∧i=.int .i64 k∧aC (cG K fs x.values) k=true∧Bel w4 wr2) (fun i _=>fs.length - (intOf i).toNat)
          case atStart=>exact⟨0,nz,rfl,rfl,rE.out⟩
          case round=>
           obtain⟨k,Kd,rfl,Cs,rr⟩:=hrel;have vG:=hid Cs;have pG:=hid rr;clear Cs rr;by_cases tF:k<fs.length
           ·obtain⟨f,fH⟩:∃ f,f=fs.getD k Fld.none:=⟨_,rfl⟩
            obtain⟨v,yU⟩:∃ v,v=x.values.getD k ByteArray.empty:=⟨_,rfl⟩
            have B1:=lo Gc.out.1 (aa aZ.out pG.out).size;have qD:=(Gc.out.2 k tF).later (aa aZ.out pG.out) Gc.out.1;rw[← fH]at qD;obtain⟨bw,_,_,dP⟩:=qD;have f1:=dP.c1;have f5:=dP.c5;have Gx:=(kR.out wr pG.out).arg;have vH:=Gx.lt1;have fv:=Gx.at1 k (by rw[pz.out.2];exact tF);rw[← yU]at fv;have Hd:(k:Int)<(x.values.length:Int):=by have:=pz.out.2;omega
            have hkf:(k:Int)<(fs.length:Int):=by omega
            have MF:(0:Int)≤(k:Int):=by omega
            obtain⟨pl,eI⟩:∃ pl,pl=ej (kU K.objects f.to v) K.objects.length:=⟨_,rfl⟩
            have rC:Hid (∀ W,Bel wr W→Calls Tryz.prog 67 #[.agg #[.int .i64 K.now,.int .i64 K.tick,.int .i64 K.given,.slice (some ⟨e0,0,none⟩) K.objects.length K.objects.length,.slice (some ⟨e1,0,none⟩) K.grants.length K.grants.length,.slice (some ⟨e2,0,none⟩) K.ledgers.length K.ledgers.length,.slice (some ⟨e3,0,none⟩) K.purses.length K.purses.length],.string f.to,.string v] W fun e w'=>e=.returned (.int .i64 pl)∧Bel W w'):=fun W bG=>by
             rw[eI];exact Er K e0 e1 e2 e3 f.to v W (HA.out.2.1.later (aa (aa aZ.out pG.out) bG))
            have tG:Hid (cG K fs x.values k=(!(decide (f.kind=4)&& !v.toList.isEmpty)|| !decide (pl<0))):=by
             show cG K fs x.values k=_;unfold cG oc;rw[← fH,← yU,eI,hZ];simp
            clear fH yU eI dP Gx;obtain⟨⟨aS,bD⟩,ao⟩:=pn.out wr pG.out;obtain⟨yz,y0,y1,y2,y3,y4,y5,y6⟩:=aS;obtain⟨lz,l0,l1,l2⟩:=bD;have ez:=ao.lt;have x0:wr.cell? ⟨E,0,none⟩=some (.string x.kind):=ao.at_ 0;have x1:wr.cell? ⟨E,1,none⟩=some (.string x.name):=ao.at_ 1;have x2:wr.cell? ⟨E,2,none⟩=some (.string x.team):=ao.at_ 2;have x3:wr.cell? ⟨E,3,none⟩=some (.slice (some ⟨b1,0,none⟩) x.values.length x.values.length):=ao.at_ 3;have x4:wr.cell? ⟨E,4,none⟩=some (.bool x.ending):=ao.at_ 4;have x5:wr.cell? ⟨E,5,none⟩=some (.slice (some ⟨b2,0,none⟩) x.holds.length x.holds.length):=ao.at_ 5;have x6:wr.cell? ⟨E,6,none⟩=some (.int .i64 x.version):=ao.at_ 6;clear ao;have tE:=dR wr;have JE:∀ px:Pst wr,E<px.W.heap.size:=fun px=>px.size ez;have KA:∀ px:Pst wr,w.heap.size+1<px.W.heap.size:=fun px=>px.size yz;have hzb:∀ px:Pst wr,b<px.W.heap.size:=fun px=>px.size B1;have hzv:∀ px:Pst wr,b1<px.W.heap.size:=fun px=>px.size vH;have Y0:∀ px:Pst wr,px.W.cell? ⟨w.heap.size+1,0,none⟩=some (.int .i64 K.now):=fun px=>px.cell y0 yz;have Y1:∀ px:Pst wr,px.W.cell? ⟨w.heap.size+1,1,none⟩=some (.int .i64 K.tick):=fun px=>px.cell y1 yz;have Y2:∀ px:Pst wr,px.W.cell? ⟨w.heap.size+1,2,none⟩=some (.int .i64 K.given):=fun px=>px.cell y2 yz;have Y3:∀ px:Pst wr,px.W.cell? ⟨w.heap.size+1,3,none⟩=some (.slice (some ⟨e0,0,none⟩) K.objects.length K.objects.length):=fun px=>px.cell y3 yz;have Y4:∀ px:Pst wr,px.W.cell? ⟨w.heap.size+1,4,none⟩=some (.slice (some ⟨e1,0,none⟩) K.grants.length K.grants.length):=fun px=>px.cell y4 yz;have Y5:∀ px:Pst wr,px.W.cell? ⟨w.heap.size+1,5,none⟩=some (.slice (some ⟨e2,0,none⟩) K.ledgers.length K.ledgers.length):=fun px=>px.cell y5 yz;have Y6:∀ px:Pst wr,px.W.cell? ⟨w.heap.size+1,6,none⟩=some (.slice (some ⟨e3,0,none⟩) K.purses.length K.purses.length):=fun px=>px.cell y6 yz;have X3:∀ px:Pst wr,px.W.cell? ⟨E,3,none⟩=some (.slice (some ⟨b1,0,none⟩) x.values.length x.values.length):=fun px=>px.cell x3 ez;have G1:∀ px:Pst wr,px.W.cell? ⟨b,k*11+1,none⟩=some (.int .i64 f.kind):=fun px=>px.cell f1 B1;have G5:∀ px:Pst wr,px.W.cell? ⟨b,k*11+5,none⟩=some (.string f.to):=fun px=>px.cell f5 B1;have GV:∀ px:Pst wr,px.W.cell? ⟨b1,k,none⟩=some (.string v):=fun px=>px.cell fv vH;by_cases h4:f.kind=4
            ·have H4:=hid (decide_eq_true h4);cases hv:v.toList.isEmpty
             ·have HV:=hid hv;by_cases hp:pl<0
              ·have qK:=hid (decide_eq_true hp);go_wp2_with fail
               refine au wr br (by kernel_rfl) (by kernel_rfl) ?_;repeat(first
                |go_big_quiet_skip
                |(go_big_quiet_want;go_big_quiet_op;first|go_big_quiet_on|(apply Exists.intro;refine⟨fun px=> ?_, ?_⟩;(focus(first|(go_at_call 67;((with_reducible refine(rC.out _ px.ok).mono ?_));rintro e w' ⟨he,hb⟩;exact⟨he,⟨w',aa px.ok hb⟩,rfl⟩)));go_big_quiet_on)))
               refine wpQuiet_nil ?_;intro _ dN;obtain⟨pw6,aX⟩:=dN;subst aX;go_wp2;go_ret;exact⟨Pl.ae (GL.out (ba tF (tG.out.trans (by simp[H4.out,HV.out,qK.out])))).symm,aa aZ.out (aa pG.out pw6.ok)⟩
              ·have qK:=hid (decide_eq_false hp);have BV:decide (pl<0)=false:=decide_eq_false hp;have yR:0≤pl:=by omega
               go_wp2_with fail
               refine au wr br (by kernel_rfl) (by kernel_rfl) ?_;repeat(first
                |go_big_quiet_skip
                |(go_big_quiet_want;go_big_quiet_op;first|go_big_quiet_on|(apply Exists.intro;refine⟨fun px=> ?_, ?_⟩;(focus(first|(go_at_call 67;((with_reducible refine(rC.out _ px.ok).mono ?_));rintro e w' ⟨he,hb⟩;exact⟨he,⟨w',aa px.ok hb⟩,rfl⟩)));go_big_quiet_on)))
               refine wpQuiet_nil ?_;intro _ dN;obtain⟨pw6,aX⟩:=dN;subst aX;go_wp2;go_roundw
               case rel=>exact⟨k+1,by omega,by go_num,aV vG.out (tG.out.trans (by simp[qK.out])),aa pG.out pw6.ok⟩
               case measure=>simp[intOf];omega
             ·have HV:=hid hv;go_wp2_with fail
              refine au wr br (by kernel_rfl) (by kernel_rfl) ?_;repeat(first
               |go_big_quiet_skip
               |(go_big_quiet_want;go_big_quiet_op;first|go_big_quiet_on|(apply Exists.intro;refine⟨fun px=> ?_, ?_⟩;(focus(first|(go_at_call 67;((with_reducible refine(rC.out _ px.ok).mono ?_));rintro e w' ⟨he,hb⟩;exact⟨he,⟨w',aa px.ok hb⟩,rfl⟩)));go_big_quiet_on)))
              refine wpQuiet_nil ?_;intro _ dN;obtain⟨pw6,aX⟩:=dN;subst aX;go_wp2;go_roundw
              case rel=>exact⟨k+1,by omega,by go_num,aV vG.out (tG.out.trans (by simp[HV.out])),aa pG.out pw6.ok⟩
              case measure=>simp[intOf];omega
            ·have H4:=hid (decide_eq_false h4);have h5:decide (f.kind=4)=false:=decide_eq_false h4;have h6:(f.kind==4)=false:=by simpa using h4
             go_wp2_with fail
             refine au wr br (by kernel_rfl) (by kernel_rfl) ?_;repeat(first
              |go_big_quiet_skip
              |(go_big_quiet_want;go_big_quiet_op;first|go_big_quiet_on|(apply Exists.intro;refine⟨fun px=> ?_, ?_⟩;(focus(first|(go_at_call 67;((with_reducible refine(rC.out _ px.ok).mono ?_));rintro e w' ⟨he,hb⟩;exact⟨he,⟨w',aa px.ok hb⟩,rfl⟩)));go_big_quiet_on)))
             refine wpQuiet_nil ?_;intro _ dN;obtain⟨pw6,aX⟩:=dN;subst aX;go_wp2;go_roundw
             case rel=>exact⟨k+1,by omega,by go_num,aV vG.out (tG.out.trans (by simp[H4.out])),aa pG.out pw6.ok⟩
             case measure=>simp[intOf];omega
           ·obtain rfl:k=fs.length:=by omega
            obtain⟨⟨aS,bD⟩,ao⟩:=pn.out wr pG.out;obtain⟨yz,y0,y1,y2,y3,y4,y5,y6⟩:=aS;obtain⟨lz,l0,l1,l2⟩:=bD;have ez:=ao.lt;have x0:wr.cell? ⟨E,0,none⟩=some (.string x.kind):=ao.at_ 0;have x1:wr.cell? ⟨E,1,none⟩=some (.string x.name):=ao.at_ 1;have x2:wr.cell? ⟨E,2,none⟩=some (.string x.team):=ao.at_ 2;have x3:wr.cell? ⟨E,3,none⟩=some (.slice (some ⟨b1,0,none⟩) x.values.length x.values.length):=ao.at_ 3;have x4:wr.cell? ⟨E,4,none⟩=some (.bool x.ending):=ao.at_ 4;have x5:wr.cell? ⟨E,5,none⟩=some (.slice (some ⟨b2,0,none⟩) x.holds.length x.holds.length):=ao.at_ 5;have x6:wr.cell? ⟨E,6,none⟩=some (.int .i64 x.version):=ao.at_ 6;clear ao;go_wp2;go_roundw
            case rel=>exact⟨0+1,by omega,by go_num,nI.out vG.out,aa js.out pG.out⟩
            case measure=>simp[intOf];omega
     ·have ry:=hid (decide_eq_false vv);have DS:¬ (cc:Int)=0:=by omega
      go_wp2;go_ret;exact⟨Pl.ae (HF.out (by simp[ry.out])).symm,aa aZ.out ru.out⟩
    ·obtain⟨m,rfl⟩:∃ m,q=m+1:=⟨q - 1,by omega⟩
     clear h0;obtain⟨x,hx⟩:∃ x,x=K.objects.getD (m+1) Ob.none:=⟨_,rfl⟩
     have bA:=(HA.out.2.1.later fw.out).o;have gJ:=bA.lt;have dO:=bA.at_ (m+1) av;rw[← hx]at dO;obtain⟨b1,b2,_,c0,c1,c2,c3,c4,c5,c6,tA⟩:=dO;obtain⟨y,hy⟩:∃ y,y=K.objects.getD m Ob.none:=⟨_,rfl⟩
     have dO:=bA.at_ m (by omega);rw[← hy]at dO;obtain⟨p1,p2,_,d0,d1,_⟩:=dO;obtain⟨w4,eo⟩:∃ w4,w4=wr.alloc (.cells #[.string x.kind,.string x.name,.string x.team,.slice (some ⟨b1,0,none⟩) x.values.length x.values.length,.bool x.ending,.slice (some ⟨b2,0,none⟩) x.holds.length x.holds.length,.int .i64 x.version] 111):=⟨_,rfl⟩
     obtain⟨E,hE⟩:∃ E,E=wr.heap.size:=⟨_,rfl⟩
     have dD:Bel wr w4:=by rw[eo];exact ab br _
     have js:=hid (aa hW dD);have aZ:=hid (aa fw.out dD);have kR:Hid (∀ W,Bel w4 W→kV W b1 b2 x):=fun W bG=>(tA.later dD).later bG;have pn:Hid (∀ W,Bel w4 W→(bd W (w.heap.size+1) (.int .i64 K.now) (.int .i64 K.tick) (.int .i64 K.given) (.slice (some ⟨e0,0,none⟩) K.objects.length K.objects.length) (.slice (some ⟨e1,0,none⟩) K.grants.length K.grants.length) (.slice (some ⟨e2,0,none⟩) K.ledgers.length K.ledgers.length) (.slice (some ⟨e3,0,none⟩) K.purses.length K.purses.length)∧bC W w.heap.size (.slice (some ⟨a0,0,none⟩) L.shapes.length L.shapes.length) (.slice (some ⟨a1,0,none⟩) L.mends.length L.mends.length) (.slice (some ⟨a2,0,none⟩) L.teams.length L.teams.length))∧aM W E #[.string x.kind,.string x.name,.string x.team,.slice (some ⟨b1,0,none⟩) x.values.length x.values.length,.bool x.ending,.slice (some ⟨b2,0,none⟩) x.holds.length x.holds.length,.int .i64 x.version]):=fun W bG=>⟨dE.out W (aa js.out bG),aM.later (by rw[eo];exact aM.bp _ _ _ _ hE) bG⟩
     have HDD:Hid (∀ W,Bel w4 W→W.cell? ⟨e0,m*7,none⟩=some (.string y.kind)∧W.cell? ⟨e0,m*7+1,none⟩=some (.string y.name)):=fun W bG=>⟨((aa dD bG).cell (p:=⟨e0,_,none⟩) gJ).trans d0,((aa dD bG).cell (p:=⟨e0,_,none⟩) gJ).trans d1⟩
     have EB:Hid (∀ W,Bel w4 W→e0<W.heap.size):=fun W bG=>lo gJ (aa dD bG).size;obtain⟨cc,pD⟩:∃ cc,cc=jn L.shapes x:=⟨_,rfl⟩
     obtain⟨cp,mQ⟩:∃ cp,cp=jd L.shapes x:=⟨_,rfl⟩
     have GC:Hid (∀ W,Bel w4 W→Calls Tryz.prog 61 #[.slice (some ⟨a0,0,none⟩) L.shapes.length L.shapes.length,.agg #[.string x.kind,.string x.name,.string x.team,.slice (some ⟨b1,0,none⟩) x.values.length x.values.length,.bool x.ending,.slice (some ⟨b2,0,none⟩) x.holds.length x.holds.length,.int .i64 x.version]] W fun e w'=>e=.returned (.tuple #[.int .i64 (cc:Nat),.int .i64 (cp:Nat)])∧Bel W w'):=fun W bG=>by
      rw[pD,mQ];have fu:=aa aZ.out bG;exact te a0 L.shapes x b1 _ b2 _ W HA.out.2.2.1 (HA.out.1.later fu).s (kR.out W bG).arg (kR.out W bG).sized (kR.out W bG).z1 (kR.out W bG).z2
     have JB:Hid (decide (cc=0)=(aK L.shapes x.kind&&decide (dk (fieldsOf L x) x=0))):=by rw[pD];exact wB L x HA.out.2.2.1
     clear pD mQ;obtain⟨t1,yI⟩:∃ t1,t1=(bB L.teams x.team):=⟨_,rfl⟩
     have GX:Hid (∀ W,Bel w4 W→Calls Tryz.prog 62 #[.slice (some ⟨a2,0,none⟩) L.teams.length L.teams.length,.string x.team] W fun e w'=>e=.returned (.bool t1)∧W=w'):=fun W bG=>by
      rw[yI];have fu:=aa aZ.out bG;exact iF a2 L.teams x.team W (HA.out.1.later fu).t
     obtain⟨t3,BS⟩:∃ t3,t3=(within x.version 1 K.now):=⟨_,rfl⟩
     have Gd:Hid (∀ W,Bel w4 W→Calls Tryz.prog 25 #[.int .i64 x.version,.int .i64 1,.int .i64 K.now] W fun e w'=>e=.returned (.bool t3)∧W=w'):=fun W bG=>by
      rw[BS];have fu:=aa aZ.out bG;exact bc _ _ _ W
     obtain⟨kq,B8⟩:∃ kq,kq=p8 y x:=⟨_,rfl⟩
     have pk:Hid (∀ W,Bel w4 W→Calls Tryz.prog 63 #[.string y.kind,.string y.name,.string x.kind,.string x.name] W fun e w'=>e=.returned (.int .i64 kq)∧W=w'):=fun W bG=>by
      rw[B8];exact Fk _ _ _ _ W
     obtain⟨sv,wV⟩:∃ sv,sv=bM L.shapes L.mends x:=⟨_,rfl⟩
     have BB:Hid (∀ W,Bel w4 W→Calls Tryz.prog 65 #[.slice (some ⟨a0,0,none⟩) L.shapes.length L.shapes.length,.slice (some ⟨a1,0,none⟩) L.mends.length L.mends.length,.agg #[.string x.kind,.string x.name,.string x.team,.slice (some ⟨b1,0,none⟩) x.values.length x.values.length,.bool x.ending,.slice (some ⟨b2,0,none⟩) x.holds.length x.holds.length,.int .i64 x.version]] W fun e w'=>∃ v0 v1 v2 g1 n1 f1 v4 v5 v6,e=.returned (.agg #[v0,v1,v2,.slice g1 n1 f1,v4,v5,v6])∧(n1=sv.length∧TxG w' g1 f1 sv)∧Bel W w'):=fun W bG=>by
      have fu:=aa aZ.out bG;refine(ql a0 a1 L.shapes L.mends x _ _ _ _ W (HA.out.1.later fu).s (HA.out.1.later fu).m HA.out.2.2.2 ((kR.out W bG).arg.g _ _)).mono ?_;rintro e w' ⟨⟨g1,n1,f1,g2,n2,f2,mid,rfl,h1,_,_,_⟩,hb⟩;rw[← wV]at h1;exact⟨_,_,_,_,_,_,_,_,_,rfl,h1.g,hb⟩
     have Cr:Hid (sv.length≤1048576∧x.values.length≤1048576):=by
      have:=(kR.out w4 br).arg.len1;refine⟨?_,this⟩;rw[wV,jk];exact this
     obtain⟨sm,dQ⟩:∃ sm,sm=ee sv x.values:=⟨_,rfl⟩
     have BH:Hid (∀ W (g1:Option Addr) (n1 f1:Nat),Bel w4 W→(n1=sv.length∧TxG W g1 f1 sv)→Calls Tryz.prog 64 #[.slice g1 n1 f1,.slice (some ⟨b1,0,none⟩) x.values.length x.values.length] W fun e w'=>e=.returned (.bool sm)∧Bel W w'):=fun W g1 n1 f1 bG hg=>by
      rw[dQ];exact Et g1 n1 f1 b1 _ sv x.values W Cr.out.1 Cr.out.2 hg.1 hg.2 (kR.out W bG).arg.lt1 (kR.out W bG).arg.at1
     have HP:Hid (eW L K (m+1)=(decide (kq<0)&&(decide (cc=0)&&t1&&t3&&sm&&aC (cG K (fieldsOf L x) x.values) (fieldsOf L x).length))):=by
      show (cF _ (m+1)&&cM L K (m+1))=_;unfold cM gS;rw[JB.out,← hx,← wV,← dQ,← yI,← BS];rw[B8,hx,hy];show (decide _&&_)=_;rfl
     have HF:Hid ((decide (kq<0)&&(decide (cc=0)&&t1&&t3&&sm&&aC (cG K (fieldsOf L x) x.values) (fieldsOf L x).length))=false→R=false):=fun hh=>by rw[mm.out];exact ba av (HP.out.trans hh)
     have HT:Hid ((decide (kq<0)&&(decide (cc=0)&&t1&&t3&&sm&&aC (cG K (fieldsOf L x) x.values) (fieldsOf L x).length))=true→aC (eW L K) (m+1+1)=true):=fun hh=>aV HQ.out (HP.out.trans hh);clear yI BS wV dQ hx bA tA hy B8 d0 d1;obtain⟨pA,_⟩:=dE.out wr hW;obtain⟨yz,y0,y1,y2,y3,y4,y5,y6⟩:=pA;go_upto_region 7 with fail
     rw[← eo,← hE];clear eo hE yz y0 y1 y2 y3 y4 y5 y6 hW c0 c1 c2 c3 c4 c5 c6 dD gJ;obtain⟨⟨aS,bD⟩,ao⟩:=pn.out w4 br;obtain⟨yz,y0,y1,y2,y3,y4,y5,y6⟩:=aS;obtain⟨lz,l0,l1,l2⟩:=bD;have ez:=ao.lt;have x0:w4.cell? ⟨E,0,none⟩=some (.string x.kind):=ao.at_ 0;have x1:w4.cell? ⟨E,1,none⟩=some (.string x.name):=ao.at_ 1;have x2:w4.cell? ⟨E,2,none⟩=some (.string x.team):=ao.at_ 2;have x3:w4.cell? ⟨E,3,none⟩=some (.slice (some ⟨b1,0,none⟩) x.values.length x.values.length):=ao.at_ 3;have x4:w4.cell? ⟨E,4,none⟩=some (.bool x.ending):=ao.at_ 4;have x5:w4.cell? ⟨E,5,none⟩=some (.slice (some ⟨b2,0,none⟩) x.holds.length x.holds.length):=ao.at_ 5;have x6:w4.cell? ⟨E,6,none⟩=some (.int .i64 x.version):=ao.at_ 6;clear ao;go_wp2_with fail
     refine(GC.out w4 br).mono ?_;rintro e w5 ⟨rfl,gI⟩;have ru:=hid gI;clear yz y0 y1 y2 y3 y4 y5 y6 lz l0 l1 l2 ez x0 x1 x2 x3 x4 x5 x6;clear gI;obtain⟨⟨aS,bD⟩,ao⟩:=pn.out w5 ru.out;obtain⟨yz,y0,y1,y2,y3,y4,y5,y6⟩:=aS;obtain⟨lz,l0,l1,l2⟩:=bD;have ez:=ao.lt;have x0:w5.cell? ⟨E,0,none⟩=some (.string x.kind):=ao.at_ 0;have x1:w5.cell? ⟨E,1,none⟩=some (.string x.name):=ao.at_ 1;have x2:w5.cell? ⟨E,2,none⟩=some (.string x.team):=ao.at_ 2;have x3:w5.cell? ⟨E,3,none⟩=some (.slice (some ⟨b1,0,none⟩) x.values.length x.values.length):=ao.at_ 3;have x4:w5.cell? ⟨E,4,none⟩=some (.bool x.ending):=ao.at_ 4;have x5:w5.cell? ⟨E,5,none⟩=some (.slice (some ⟨b2,0,none⟩) x.holds.length x.holds.length):=ao.at_ 5;have x6:w5.cell? ⟨E,6,none⟩=some (.int .i64 x.version):=ao.at_ 6;clear ao;by_cases vv:cc=0
     ·have ry:=hid (decide_eq_true vv);have DS:(cc:Int)=0:=by omega
      go_wp2_with fail
      refine(GX.out w5 ru.out).mono ?_;rintro e w7 ⟨rfl,rfl⟩;cases t1
      ·go_wp2;go_ret;exact⟨Pl.ae (HF.out (by simp)).symm,aa aZ.out ru.out⟩
      ·go_wp2_with fail
       refine(Gd.out w5 ru.out).mono ?_;rintro e w7 ⟨rfl,rfl⟩;cases t3
       ·go_wp2;go_ret;exact⟨Pl.ae (HF.out (by simp)).symm,aa aZ.out ru.out⟩
       ·have tE:=dR w5;have JE:∀ px:Pst w5,E<px.W.heap.size:=fun px=>px.size ez;have KA:∀ px:Pst w5,w.heap.size+1<px.W.heap.size:=fun px=>px.size yz;have Y0:∀ px:Pst w5,px.W.cell? ⟨w.heap.size+1,0,none⟩=some (.int .i64 K.now):=fun px=>px.cell y0 yz;have Y1:∀ px:Pst w5,px.W.cell? ⟨w.heap.size+1,1,none⟩=some (.int .i64 K.tick):=fun px=>px.cell y1 yz;have Y2:∀ px:Pst w5,px.W.cell? ⟨w.heap.size+1,2,none⟩=some (.int .i64 K.given):=fun px=>px.cell y2 yz;have Y3:∀ px:Pst w5,px.W.cell? ⟨w.heap.size+1,3,none⟩=some (.slice (some ⟨e0,0,none⟩) K.objects.length K.objects.length):=fun px=>px.cell y3 yz;have Y4:∀ px:Pst w5,px.W.cell? ⟨w.heap.size+1,4,none⟩=some (.slice (some ⟨e1,0,none⟩) K.grants.length K.grants.length):=fun px=>px.cell y4 yz;have Y5:∀ px:Pst w5,px.W.cell? ⟨w.heap.size+1,5,none⟩=some (.slice (some ⟨e2,0,none⟩) K.ledgers.length K.ledgers.length):=fun px=>px.cell y5 yz;have Y6:∀ px:Pst w5,px.W.cell? ⟨w.heap.size+1,6,none⟩=some (.slice (some ⟨e3,0,none⟩) K.purses.length K.purses.length):=fun px=>px.cell y6 yz;have X0:∀ px:Pst w5,px.W.cell? ⟨E,0,none⟩=some (.string x.kind):=fun px=>px.cell x0 ez;have X1:∀ px:Pst w5,px.W.cell? ⟨E,1,none⟩=some (.string x.name):=fun px=>px.cell x1 ez;obtain⟨d0,d1⟩:=HDD.out w5 ru.out;have d2:=EB.out w5 ru.out;have D0:∀ px:Pst w5,px.W.cell? ⟨e0,m*7,none⟩=some (.string y.kind):=fun px=>px.cell d0 d2;have D1:∀ px:Pst w5,px.W.cell? ⟨e0,m*7+1,none⟩=some (.string y.name):=fun px=>px.cell d1 d2;have za:∀ px:Pst w5,e0<px.W.heap.size:=fun px=>px.size d2;have BJ:(0:Int)≤(m:Int):=by omega
        have gB:(m:Int)<(K.objects.length:Int):=by omega
        have Kc:IntKind.i64.wrap (m:Int)=(m:Int):=j4 _ (by omega) (by omega);have hH:(0:Int)<(m:Int)+1:=by omega
        have EK:=hid fun (W:World) (bG:Bel w5 W)=>pk.out W (aa ru.out bG);by_cases hk:kq<0
        ·have pv:=hid (decide_eq_true hk);have lO:¬ 0≤kq:=by omega
         have hk3:decide (0≤kq)=false:=decide_eq_false lO;go_wp2_with fail
         refine au w5 br (by kernel_rfl) (by kernel_rfl) ?_;repeat(first
          |go_big_quiet_skip
          |(go_big_quiet_want;go_big_quiet_op;first|go_big_quiet_on|(apply Exists.intro;refine⟨fun px=> ?_, ?_⟩;(focus(first|(go_at_call 63;((with_reducible refine(EK.out _ px.ok).mono ?_));rintro e w' ⟨he,hb⟩;exact⟨he,px,hb.symm⟩)));go_big_quiet_on)))
         refine wpQuiet_nil ?_;intro _ dN;obtain⟨pw,aX⟩:=dN;subst aX;clear yz y0 y1 y2 y3 y4 y5 y6 lz l0 l1 l2 ez x0 x1 x2 x3 x4 x5 x6 tE JE KA Y0 Y1 Y2 Y3 Y4 Y5 Y6 X0 X1 D0 D1 d0 d1 d2 za;have Hm:=hid (aa ru.out pw.ok);generalize pw.W=w6 at*;obtain⟨⟨aS,bD⟩,ao⟩:=pn.out w6 Hm.out;obtain⟨yz,y0,y1,y2,y3,y4,y5,y6⟩:=aS;obtain⟨lz,l0,l1,l2⟩:=bD;have ez:=ao.lt;have x0:w6.cell? ⟨E,0,none⟩=some (.string x.kind):=ao.at_ 0;have x1:w6.cell? ⟨E,1,none⟩=some (.string x.name):=ao.at_ 1;have x2:w6.cell? ⟨E,2,none⟩=some (.string x.team):=ao.at_ 2;have x3:w6.cell? ⟨E,3,none⟩=some (.slice (some ⟨b1,0,none⟩) x.values.length x.values.length):=ao.at_ 3;have x4:w6.cell? ⟨E,4,none⟩=some (.bool x.ending):=ao.at_ 4;have x5:w6.cell? ⟨E,5,none⟩=some (.slice (some ⟨b2,0,none⟩) x.holds.length x.holds.length):=ao.at_ 5;have x6:w6.cell? ⟨E,6,none⟩=some (.int .i64 x.version):=ao.at_ 6;clear ao;go_wp2_with fail
         refine jf w4 Hm.out (VSh w.heap.size E (.slice (some ⟨a0,0,none⟩) L.shapes.length L.shapes.length) (.slice (some ⟨a1,0,none⟩) L.mends.length L.mends.length) (.agg #[.string x.kind,.string x.name,.string x.team,.slice (some ⟨b1,0,none⟩) x.values.length x.values.length,.bool x.ending,.slice (some ⟨b2,0,none⟩) x.holds.length x.holds.length,.int .i64 x.version]) (.slice (some ⟨b1,0,none⟩) x.values.length x.values.length) sv sm) (oz _ _ _ _ _ _ _ _) (by kernel_rfl) (by kernel_rfl) (by kernel_rfl) (by kernel_rfl) ?_ ?_
         ·intro i o ho a W hW hk hd;obtain⟨⟨aS,bD⟩,ao⟩:=pn.out W hW;obtain⟨lz,l0,l1,l2⟩:=bD;have ez:=ao.lt;have x0:W.cell? ⟨E,0,none⟩=some (.string x.kind):=ao.at_ 0;have x1:W.cell? ⟨E,1,none⟩=some (.string x.name):=ao.at_ 1;have x2:W.cell? ⟨E,2,none⟩=some (.string x.team):=ao.at_ 2;have x3:W.cell? ⟨E,3,none⟩=some (.slice (some ⟨b1,0,none⟩) x.values.length x.values.length):=ao.at_ 3;have x4:W.cell? ⟨E,4,none⟩=some (.bool x.ending):=ao.at_ 4;have x5:W.cell? ⟨E,5,none⟩=some (.slice (some ⟨b2,0,none⟩) x.holds.length x.holds.length):=ao.at_ 5;have x6:W.cell? ⟨E,6,none⟩=some (.int .i64 x.version):=ao.at_ 6;have etl:a.tmps[2]?.getD undef=.pointer (some ⟨w.heap.size,0,none⟩):=(ay a 2).trans ((hk 2 rfl).trans rfl);have eto:a.tmps[6]?.getD undef=.pointer (some ⟨E,0,none⟩):=(ay a 6).trans ((hk 6 rfl).trans rfl);match i,ho with
          |0,ho=>
           injection ho with ho;subst ho
           exact Or.inl ⟨_,W,by simp[execOp,go_sem,etl],br,rfl⟩
          |1,ho=>
           injection ho with ho;subst ho
           have e0:a.tmps[77]?.getD undef=_:=(ay a 77).trans (hd 0 _ 77 rfl rfl ⟨⟨0,.data⟩,by simp,rfl,rfl⟩);exact Or.inl ⟨_,W,by simp[execOp,go_sem,e0,l0],br,rfl⟩
          |2,ho=>
           injection ho with ho;subst ho
           exact Or.inl ⟨_,W,by simp[execOp,go_sem,etl],br,rfl⟩
          |3,ho=>
           injection ho with ho;subst ho
           have e0:a.tmps[79]?.getD undef=_:=(ay a 79).trans (hd 2 _ 79 rfl rfl ⟨⟨2,.data⟩,by simp,rfl,rfl⟩);exact Or.inl ⟨_,W,by simp[execOp,go_sem,e0,l1],br,rfl⟩
          |4,ho=>
           injection ho with ho;subst ho
           exact Or.inl ⟨_,W,by simp[execOp,go_sem,eto,x0,x1,x2,x3,x4,x5,x6],br,rfl⟩
          |5,ho=>
           injection ho with ho;subst ho
           have e0:a.tmps[78]?.getD undef=_:=(ay a 78).trans (hd 1 _ 78 rfl rfl ⟨⟨1,.data⟩,by simp,rfl,rfl⟩);have e1:a.tmps[80]?.getD undef=_:=(ay a 80).trans (hd 3 _ 80 rfl rfl ⟨⟨3,.data⟩,by simp,rfl,rfl⟩);have e2:a.tmps[81]?.getD undef=_:=(ay a 81).trans (hd 4 _ 81 rfl rfl ⟨⟨4,.data⟩,by simp,rfl,rfl⟩);refine Or.inr ⟨65,#[.slice (some ⟨a0,0,none⟩) L.shapes.length L.shapes.length,.slice (some ⟨a1,0,none⟩) L.mends.length L.mends.length,.agg #[.string x.kind,.string x.name,.string x.team,.slice (some ⟨b1,0,none⟩) x.values.length x.values.length,.bool x.ending,.slice (some ⟨b2,0,none⟩) x.holds.length x.holds.length,.int .i64 x.version]],by simp[go_sem,e0,e1,e2],(BB.out W hW).mono ?_⟩;rintro e W' ⟨v0,v1,v2,g1,n1,f1,v4,v5,v6,rfl,hg,hb⟩;exact⟨_,rfl,hb,v0,v1,v2,g1,n1,f1,v4,v5,v6,rfl,hg⟩
          |6,ho=>
           injection ho with ho;subst ho
           obtain⟨v0,v1,v2,g1,n1,f1,v4,v5,v6,e0,hg⟩:=(hd 5 _ 82 rfl rfl ⟨⟨5,.data⟩,by simp,rfl,rfl⟩)
           have e0:=(ay a 82).trans e0;exact Or.inl ⟨.slice g1 n1 f1,W,by simp[execOp,go_sem,e0,lx],br,g1,n1,f1,rfl,hg⟩
          |7,ho=>
           injection ho with ho;subst ho
           exact Or.inl ⟨_,W,by simp[execOp,go_sem,eto],br,rfl⟩
          |8,ho=>
           injection ho with ho;subst ho
           have e0:a.tmps[84]?.getD undef=_:=(ay a 84).trans (hd 7 _ 84 rfl rfl ⟨⟨7,.data⟩,by simp,rfl,rfl⟩);exact Or.inl ⟨_,W,by simp[execOp,go_sem,e0,x3],br,rfl⟩
          |9,ho=>
           injection ho with ho;subst ho
           obtain⟨g1,n1,f1,e0,hg⟩:=(hd 6 _ 83 rfl rfl ⟨⟨6,.data⟩,by simp,rfl,rfl⟩)
           have e0:=(ay a 83).trans e0;have e1:a.tmps[85]?.getD undef=_:=(ay a 85).trans (hd 8 _ 85 rfl rfl ⟨⟨8,.data⟩,by simp,rfl,rfl⟩);refine Or.inr ⟨64,#[.slice g1 n1 f1,.slice (some ⟨b1,0,none⟩) x.values.length x.values.length],by simp[go_sem,e0,e1],(BH.out W g1 n1 f1 hW hg).mono ?_⟩;rintro e W' ⟨rfl,hb⟩;exact⟨_,rfl,hb,rfl⟩
          |10,ho=>
           injection ho with ho;subst ho
           have e0:a.tmps[86]?.getD undef=_:=(ay a 86).trans (hd 9 _ 86 rfl rfl ⟨⟨9,.data⟩,by simp,rfl,rfl⟩);exact Or.inl ⟨.bool (!sm),W,by simp[execOp,go_sem,e0],br,rfl⟩
          |n+11,ho=>simp at ho
         ·intro w9 vs Cp nj;have elast:vs 87=.bool (!sm):=nj 10 _ 87 rfl rfl;simp only[eu,Act.put,List.setIfInBounds_toArray,List.set_cons_zero,List.set_cons_succ];rw[elast];generalize vs 77=s77;generalize vs 78=s78;generalize vs 79=s79;generalize vs 80=s80;generalize vs 81=s81;generalize vs 82=s82;generalize vs 83=s83;generalize vs 84=s84;generalize vs 85=s85;generalize vs 86=s86;clear nj elast;clear yz y0 y1 y2 y3 y4 y5 y6 lz l0 l1 l2 ez x0 x1 x2 x3 x4 x5 x6;have xh:=hid Cp;clear Cp;cases sm
          ·obtain⟨⟨aS,bD⟩,ao⟩:=pn.out w9 xh.out;obtain⟨yz,y0,y1,y2,y3,y4,y5,y6⟩:=aS;obtain⟨lz,l0,l1,l2⟩:=bD;have ez:=ao.lt;have x0:w9.cell? ⟨E,0,none⟩=some (.string x.kind):=ao.at_ 0;have x1:w9.cell? ⟨E,1,none⟩=some (.string x.name):=ao.at_ 1;have x2:w9.cell? ⟨E,2,none⟩=some (.string x.team):=ao.at_ 2;have x3:w9.cell? ⟨E,3,none⟩=some (.slice (some ⟨b1,0,none⟩) x.values.length x.values.length):=ao.at_ 3;have x4:w9.cell? ⟨E,4,none⟩=some (.bool x.ending):=ao.at_ 4;have x5:w9.cell? ⟨E,5,none⟩=some (.slice (some ⟨b2,0,none⟩) x.holds.length x.holds.length):=ao.at_ 5;have x6:w9.cell? ⟨E,6,none⟩=some (.int .i64 x.version):=ao.at_ 6;clear ao;go_wp2;go_ret;exact⟨Pl.ae (HF.out (by simp)).symm,aa aZ.out xh.out⟩
          ·obtain⟨⟨aS,bD⟩,ao⟩:=pn.out w9 xh.out;obtain⟨yz,y0,y1,y2,y3,y4,y5,y6⟩:=aS;obtain⟨lz,l0,l1,l2⟩:=bD;have ez:=ao.lt;have x0:w9.cell? ⟨E,0,none⟩=some (.string x.kind):=ao.at_ 0;have x1:w9.cell? ⟨E,1,none⟩=some (.string x.name):=ao.at_ 1;have x2:w9.cell? ⟨E,2,none⟩=some (.string x.team):=ao.at_ 2;have x3:w9.cell? ⟨E,3,none⟩=some (.slice (some ⟨b1,0,none⟩) x.values.length x.values.length):=ao.at_ 3;have x4:w9.cell? ⟨E,4,none⟩=some (.bool x.ending):=ao.at_ 4;have x5:w9.cell? ⟨E,5,none⟩=some (.slice (some ⟨b2,0,none⟩) x.holds.length x.holds.length):=ao.at_ 5;have x6:w9.cell? ⟨E,6,none⟩=some (.int .i64 x.version):=ao.at_ 6;clear ao;have JC:Hid (aT L.shapes x=true∧x.values.length=(fieldsOf L x).length):=by
            have h:=JB.out;rw[ry.out]at h;have h2:=(Bool.and_eq_true _ _).mp h.symm;have h3:=nW (of_decide_eq_true h2.2);refine⟨?_,h3⟩;unfold aT;rw[h2.1];exact decide_eq_true h3
           obtain⟨fs,ea⟩:∃ fs,fs=fieldsOf L x:=⟨_,rfl⟩
           have B3:Hid (Calls Tryz.prog 66 #[.slice (some ⟨a0,0,none⟩) L.shapes.length L.shapes.length,.agg #[.string x.kind,.string x.name,.string x.team,.slice (some ⟨b1,0,none⟩) x.values.length x.values.length,.bool x.ending,.slice (some ⟨b2,0,none⟩) x.holds.length x.holds.length,.int .i64 x.version]] w9 fun e w'=>∃ b hf,e=.returned (.tuple #[.slice (some ⟨b,0,none⟩) fs.length fs.length,.bool hf])∧b<w.heap.size∧(∀ i,i<fs.length→bx w b (i*11) (fs.getD i Fld.none))∧Bel w9 w'):=by
            show Calls _ _ _ _ _;refine(jx w a0 L.shapes x _ _ _ _ w9 HA.out.1.s (aa aZ.out xh.out)).mono ?_;rintro e w' ⟨a,n,c,rfl,h,hb⟩;obtain⟨b,hv,gW,jg⟩:=h JC.out.1;injection hv with pE rJ pR
            subst pE rJ pR;rw[ea];exact⟨b,_,rfl,gW,jg,hb⟩
           have pz:Hid (fs=fieldsOf L x∧x.values.length=fs.length):=⟨ea,by rw[ea];exact JC.out.2⟩
           have jg:fs.length≤1048576:=by rw[← pz.out.2];exact Cr.out.2
           clear ea;go_wp2_with fail
           refine B3.out.mono ?_;rintro e GM ⟨b,hf,rfl,gW,cq,BL⟩;have rE:=hid (aa xh.out BL);have Gc:=hid (And.intro gW cq);clear gW cq BL B3;clear yz y0 y1 y2 y3 y4 y5 y6 lz l0 l1 l2 ez x0 x1 x2 x3 x4 x5 x6;have GL:Hid (aC (cG K fs x.values) fs.length=false→R=false):=fun hh=>HF.out (by rw[pz.out.1]at hh;rw[hh];simp);have nI:Hid (aC (cG K fs x.values) fs.length=true→aC (eW L K) (m+1+1)=true):=fun hh=>HT.out (by rw[pz.out.1]at hh;simp[hh,ry.out,pv.out]);go_wp2;go_loopw [11] (fun i wr2=>∃ k:Nat,k≤fs.length∧i=.int .i64 k∧aC (cG K fs x.values) k=true∧Bel w4 wr2) (fun i _=>fs.length - (intOf i).toNat)
           case atStart=>exact⟨0,nz,rfl,rfl,rE.out⟩
           case round=>
            obtain⟨k,Kd,rfl,Cs,rr⟩:=hrel;have vG:=hid Cs;have pG:=hid rr;clear Cs rr;by_cases tF:k<fs.length
            ·obtain⟨f,fH⟩:∃ f,f=fs.getD k Fld.none:=⟨_,rfl⟩
             obtain⟨v,yU⟩:∃ v,v=x.values.getD k ByteArray.empty:=⟨_,rfl⟩
             have B1:=lo Gc.out.1 (aa aZ.out pG.out).size;have qD:=(Gc.out.2 k tF).later (aa aZ.out pG.out) Gc.out.1;rw[← fH]at qD;obtain⟨bw,_,_,dP⟩:=qD;have f1:=dP.c1;have f5:=dP.c5;have Gx:=(kR.out wr pG.out).arg;have vH:=Gx.lt1;have fv:=Gx.at1 k (by rw[pz.out.2];exact tF);rw[← yU]at fv;have Hd:(k:Int)<(x.values.length:Int):=by have:=pz.out.2;omega
             have hkf:(k:Int)<(fs.length:Int):=by omega
             have MF:(0:Int)≤(k:Int):=by omega
             obtain⟨pl,eI⟩:∃ pl,pl=ej (kU K.objects f.to v) K.objects.length:=⟨_,rfl⟩
             have rC:Hid (∀ W,Bel wr W→Calls Tryz.prog 67 #[.agg #[.int .i64 K.now,.int .i64 K.tick,.int .i64 K.given,.slice (some ⟨e0,0,none⟩) K.objects.length K.objects.length,.slice (some ⟨e1,0,none⟩) K.grants.length K.grants.length,.slice (some ⟨e2,0,none⟩) K.ledgers.length K.ledgers.length,.slice (some ⟨e3,0,none⟩) K.purses.length K.purses.length],.string f.to,.string v] W fun e w'=>e=.returned (.int .i64 pl)∧Bel W w'):=fun W bG=>by
              rw[eI];exact Er K e0 e1 e2 e3 f.to v W (HA.out.2.1.later (aa (aa aZ.out pG.out) bG))
             have tG:Hid (cG K fs x.values k=(!(decide (f.kind=4)&& !v.toList.isEmpty)|| !decide (pl<0))):=by
              show cG K fs x.values k=_;unfold cG oc;rw[← fH,← yU,eI,hZ];simp
             clear fH yU eI dP Gx;obtain⟨⟨aS,bD⟩,ao⟩:=pn.out wr pG.out;obtain⟨yz,y0,y1,y2,y3,y4,y5,y6⟩:=aS;obtain⟨lz,l0,l1,l2⟩:=bD;have ez:=ao.lt;have x0:wr.cell? ⟨E,0,none⟩=some (.string x.kind):=ao.at_ 0;have x1:wr.cell? ⟨E,1,none⟩=some (.string x.name):=ao.at_ 1;have x2:wr.cell? ⟨E,2,none⟩=some (.string x.team):=ao.at_ 2;have x3:wr.cell? ⟨E,3,none⟩=some (.slice (some ⟨b1,0,none⟩) x.values.length x.values.length):=ao.at_ 3;have x4:wr.cell? ⟨E,4,none⟩=some (.bool x.ending):=ao.at_ 4;have x5:wr.cell? ⟨E,5,none⟩=some (.slice (some ⟨b2,0,none⟩) x.holds.length x.holds.length):=ao.at_ 5;have x6:wr.cell? ⟨E,6,none⟩=some (.int .i64 x.version):=ao.at_ 6;clear ao;have tE:=dR wr;have JE:∀ px:Pst wr,E<px.W.heap.size:=fun px=>px.size ez;have KA:∀ px:Pst wr,w.heap.size+1<px.W.heap.size:=fun px=>px.size yz;have hzb:∀ px:Pst wr,b<px.W.heap.size:=fun px=>px.size B1;have hzv:∀ px:Pst wr,b1<px.W.heap.size:=fun px=>px.size vH;have Y0:∀ px:Pst wr,px.W.cell? ⟨w.heap.size+1,0,none⟩=some (.int .i64 K.now):=fun px=>px.cell y0 yz;have Y1:∀ px:Pst wr,px.W.cell? ⟨w.heap.size+1,1,none⟩=some (.int .i64 K.tick):=fun px=>px.cell y1 yz;have Y2:∀ px:Pst wr,px.W.cell? ⟨w.heap.size+1,2,none⟩=some (.int .i64 K.given):=fun px=>px.cell y2 yz;have Y3:∀ px:Pst wr,px.W.cell? ⟨w.heap.size+1,3,none⟩=some (.slice (some ⟨e0,0,none⟩) K.objects.length K.objects.length):=fun px=>px.cell y3 yz;have Y4:∀ px:Pst wr,px.W.cell? ⟨w.heap.size+1,4,none⟩=some (.slice (some ⟨e1,0,none⟩) K.grants.length K.grants.length):=fun px=>px.cell y4 yz;have Y5:∀ px:Pst wr,px.W.cell? ⟨w.heap.size+1,5,none⟩=some (.slice (some ⟨e2,0,none⟩) K.ledgers.length K.ledgers.length):=fun px=>px.cell y5 yz;have Y6:∀ px:Pst wr,px.W.cell? ⟨w.heap.size+1,6,none⟩=some (.slice (some ⟨e3,0,none⟩) K.purses.length K.purses.length):=fun px=>px.cell y6 yz;have X3:∀ px:Pst wr,px.W.cell? ⟨E,3,none⟩=some (.slice (some ⟨b1,0,none⟩) x.values.length x.values.length):=fun px=>px.cell x3 ez;have G1:∀ px:Pst wr,px.W.cell? ⟨b,k*11+1,none⟩=some (.int .i64 f.kind):=fun px=>px.cell f1 B1;have G5:∀ px:Pst wr,px.W.cell? ⟨b,k*11+5,none⟩=some (.string f.to):=fun px=>px.cell f5 B1;have GV:∀ px:Pst wr,px.W.cell? ⟨b1,k,none⟩=some (.string v):=fun px=>px.cell fv vH;by_cases h4:f.kind=4
             ·have H4:=hid (decide_eq_true h4);cases hv:v.toList.isEmpty
              ·have HV:=hid hv;by_cases hp:pl<0
               ·have qK:=hid (decide_eq_true hp);go_wp2_with fail
                refine au wr br (by kernel_rfl) (by kernel_rfl) ?_;repeat(first
                 |go_big_quiet_skip
                 |(go_big_quiet_want;go_big_quiet_op;first|go_big_quiet_on|(apply Exists.intro;refine⟨fun px=> ?_, ?_⟩;(focus(first|(go_at_call 67;((with_reducible refine(rC.out _ px.ok).mono ?_));rintro e w' ⟨he,hb⟩;exact⟨he,⟨w',aa px.ok hb⟩,rfl⟩)));go_big_quiet_on)))
                refine wpQuiet_nil ?_;intro _ dN;obtain⟨pw6,aX⟩:=dN;subst aX;go_wp2;go_ret;exact⟨Pl.ae (GL.out (ba tF (tG.out.trans (by simp[H4.out,HV.out,qK.out])))).symm,aa aZ.out (aa pG.out pw6.ok)⟩
               ·have qK:=hid (decide_eq_false hp);have BV:decide (pl<0)=false:=decide_eq_false hp;have yR:0≤pl:=by omega
                go_wp2_with fail
                refine au wr br (by kernel_rfl) (by kernel_rfl) ?_;repeat(first
                 |go_big_quiet_skip
                 |(go_big_quiet_want;go_big_quiet_op;first|go_big_quiet_on|(apply Exists.intro;refine⟨fun px=> ?_, ?_⟩;(focus(first|(go_at_call 67;((with_reducible refine(rC.out _ px.ok).mono ?_));rintro e w' ⟨he,hb⟩;exact⟨he,⟨w',aa px.ok hb⟩,rfl⟩)));go_big_quiet_on)))
                refine wpQuiet_nil ?_;intro _ dN;obtain⟨pw6,aX⟩:=dN;subst aX;go_wp2;go_roundw
                case rel=>exact⟨k+1,by omega,by go_num,aV vG.out (tG.out.trans (by simp[qK.out])),aa pG.out pw6.ok⟩
                case measure=>simp[intOf];omega
              ·have HV:=hid hv;go_wp2_with fail
               refine au wr br (by kernel_rfl) (by kernel_rfl) ?_;repeat(first
                |go_big_quiet_skip
                |(go_big_quiet_want;go_big_quiet_op;first|go_big_quiet_on|(apply Exists.intro;refine⟨fun px=> ?_, ?_⟩;(focus(first|(go_at_call 67;((with_reducible refine(rC.out _ px.ok).mono ?_));rintro e w' ⟨he,hb⟩;exact⟨he,⟨w',aa px.ok hb⟩,rfl⟩)));go_big_quiet_on)))
               refine wpQuiet_nil ?_;intro _ dN;obtain⟨pw6,aX⟩:=dN;subst aX;go_wp2;go_roundw
               case rel=>exact⟨k+1,by omega,by go_num,aV vG.out (tG.out.trans (by simp[HV.out])),aa pG.out pw6.ok⟩
               case measure=>simp[intOf];omega
             ·have H4:=hid (decide_eq_false h4);have h5:decide (f.kind=4)=false:=decide_eq_false h4;have h6:(f.kind==4)=false:=by simpa using h4
              go_wp2_with fail
              refine au wr br (by kernel_rfl) (by kernel_rfl) ?_;repeat(first
               |go_big_quiet_skip
               |(go_big_quiet_want;go_big_quiet_op;first|go_big_quiet_on|(apply Exists.intro;refine⟨fun px=> ?_, ?_⟩;(focus(first|(go_at_call 67;((with_reducible refine(rC.out _ px.ok).mono ?_));rintro e w' ⟨he,hb⟩;exact⟨he,⟨w',aa px.ok hb⟩,rfl⟩)));go_big_quiet_on)))
              refine wpQuiet_nil ?_;intro _ dN;obtain⟨pw6,aX⟩:=dN;subst aX;go_wp2;go_roundw
              case rel=>exact⟨k+1,by omega,by go_num,aV vG.out (tG.out.trans (by simp[H4.out])),aa pG.out pw6.ok⟩
              case measure=>simp[intOf];omega
            ·obtain rfl:k=fs.length:=by omega
             obtain⟨⟨aS,bD⟩,ao⟩:=pn.out wr pG.out;obtain⟨yz,y0,y1,y2,y3,y4,y5,y6⟩:=aS;obtain⟨lz,l0,l1,l2⟩:=bD;have ez:=ao.lt;have x0:wr.cell? ⟨E,0,none⟩=some (.string x.kind):=ao.at_ 0;have x1:wr.cell? ⟨E,1,none⟩=some (.string x.name):=ao.at_ 1;have x2:wr.cell? ⟨E,2,none⟩=some (.string x.team):=ao.at_ 2;have x3:wr.cell? ⟨E,3,none⟩=some (.slice (some ⟨b1,0,none⟩) x.values.length x.values.length):=ao.at_ 3;have x4:wr.cell? ⟨E,4,none⟩=some (.bool x.ending):=ao.at_ 4;have x5:wr.cell? ⟨E,5,none⟩=some (.slice (some ⟨b2,0,none⟩) x.holds.length x.holds.length):=ao.at_ 5;have x6:wr.cell? ⟨E,6,none⟩=some (.int .i64 x.version):=ao.at_ 6;clear ao;go_wp2;go_roundw
             case rel=>exact⟨m+1+1,by omega,by go_num,nI.out vG.out,aa js.out pG.out⟩
             case measure=>simp[intOf];omega
        ·have pv:=hid (decide_eq_false hk);have lO:0≤kq:=by omega
         go_wp2_with fail
         refine au w5 br (by kernel_rfl) (by kernel_rfl) ?_;repeat(first
          |go_big_quiet_skip
          |(go_big_quiet_want;go_big_quiet_op;first|go_big_quiet_on|(apply Exists.intro;refine⟨fun px=> ?_, ?_⟩;(focus(first|(go_at_call 63;((with_reducible refine(EK.out _ px.ok).mono ?_));rintro e w' ⟨he,hb⟩;exact⟨he,px,hb.symm⟩)));go_big_quiet_on)))
         refine wpQuiet_nil ?_;intro _ dN;obtain⟨pw,aX⟩:=dN;subst aX;go_wp2;go_ret;exact⟨Pl.ae (HF.out (by simp[pv.out])).symm,aa aZ.out (aa ru.out pw.ok)⟩
     ·have ry:=hid (decide_eq_false vv);have DS:¬ (cc:Int)=0:=by omega
      go_wp2;go_ret;exact⟨Pl.ae (HF.out (by simp[ry.out])).symm,aa aZ.out ru.out⟩
   ·obtain rfl:q=K.objects.length:=by omega
    obtain⟨aS,_⟩:=dE.out wr hW;obtain⟨yz,y0,y1,y2,y3,y4,y5,y6⟩:=aS;go_wp2;go_ret;exact⟨Pl.ae (by rw[mm.out,HQ.out]),fw.out⟩
 ·have HE:Hid (R=false):=by show _=_;rw[HR.out];simp[EA]
  go_wp2;go_ret;exact⟨Pl.ae HE.out.symm,cQ.out⟩
end Go.Proofs.YtbiokpmdghmgcaaGreat
