import Derived.Deep.DeepCutAuto
import Derived.BigQuiet
import Derived.Deep.RegionWith
import Derived.Test.YtbiokpmdghmgcaaGreatWalkUC
import Derived.Test.YtbiokpmdghmgcaaGreatBin
import Derived.Test.YtbiokpmdghmgcaaGreatWalkDR
import Derived.Test.YtbiokpmdghmgcaaGreatWalkCC
namespace Go.Proofs.YtbiokpmdghmgcaaGreat
set_option maxHeartbeats 40000000
open Go.RowKit Go.Deep
def cg (f:Fld) (v res:ByteArray):Int:=if (f.kind==1&&(f.we.toList==res.toList)) then dh v else 0
def ca (fs:List Fld) (vs:List ByteArray) (res:ByteArray):Nat→Int
 |0=>0
 |k+1=>ca fs vs res k+cg (fs.getD k Fld.none) (vs.getD k ByteArray.empty) res
def one (b:Bool):Int:=if b then 1 else 0
def bU (ss:List Shp) (o:Ob) (res:ByteArray):Int:=
 if aP ss o&& !res.toList.isEmpty then one (res.toList==o.kind.toList)+ca (ss.getD (aB ss o.kind) Shp.none).fields o.values res (ss.getD (aB ss o.kind) Shp.none).fields.length else 0
theorem gU (s:ByteArray):0≤dh s∧dh s≤9999999:=by
 unfold dh;cases h:Pl.du s
 ·simp
 ·simp only[Pl.du,Bool.and_eq_true,decide_eq_true_eq]at h;obtain⟨⟨⟨_,h7⟩,_⟩,hd⟩:=h;have h8:s.data.toList.take s.size=s.data.toList:=List.take_of_length_le (by rw[Array.length_toList];exact nr);have:=Pl.gW s s.size nr h7 (by rw[h8];exact hd);rw[h8]at this;simp only[if_true];exact this
theorem rv (s:ByteArray):dh s=if 0<Pl.g8 s then Pl.g8 s else 0:=by
 have h0:=(gU s).1;unfold dh at*;unfold Pl.g8;cases h:Pl.du s
 ·simp
 ·simp only[h,if_true]at h0 ⊢;split<;>omega
theorem pc (f:Fld) (v res:ByteArray):0≤cg f v res∧cg f v res≤9999999:=by
 unfold cg;split
 ·exact gU v
 ·omega
theorem i6 (fs:List Fld) (vs:List ByteArray) (res:ByteArray):∀ k,0≤ca fs vs res k∧ca fs vs res k≤k*9999999
 |0=>by simp[ca]
 |k+1=>by
  have h1:=i6 fs vs res k;have h2:=pc (fs.getD k Fld.none) (vs.getD k ByteArray.empty) res;simp only[ca];omega
theorem Co (B:Nat) (u1 u2:Value) (ss:List Shp) (o:Ob) (b1 c1 b2 c2:Nat) (res:ByteArray) (w:World) (h:bd w B ss) (ho:iW w b1 b2 o) (hz:∀ i,i<o.values.length→(o.values.getD i ByteArray.empty).size≤maxLen):
  Calls Tryz.prog 127 #[.agg #[.slice (some ⟨B,0,none⟩) ss.length ss.length,u1,u2],.agg #[.string o.kind,.string o.name,.string o.team,.slice (some ⟨b1,0,none⟩) o.values.length c1,.bool o.ending,.slice (some ⟨b2,0,none⟩) o.holds.length c2,.int .i64 o.version],.string res] w fun e w'=>e=.returned (.int .i64 (bU ss o res))∧Bel w w':=by
 have HA:=hid (And.intro h ho);have s6:=ho.len1;clear h ho;obtain⟨w0,gi⟩:∃ w0,w0=(w.alloc (.cells #[.slice (some ⟨B,0,none⟩) ss.length ss.length,u1,u2] 40)).alloc (.cells #[.string o.kind,.string o.name,.string o.team,.slice (some ⟨b1,0,none⟩) o.values.length c1,.bool o.ending,.slice (some ⟨b2,0,none⟩) o.holds.length c2,.int .i64 o.version] 111):=⟨_,rfl⟩
 have fT:Hid (Bel w w0):=by show Below _ _ _;rw[gi];exact ab (ab br _) _
 have eQ:w0.heap.size=w.heap.size+2:=by rw[gi];simp
 have qi:=hid eQ;have hx:w.heap.size+1<w0.heap.size:=by omega
 have I2:w.heap.size<w0.heap.size:=by omega
 have a0:w0.cell? ⟨w.heap.size,0,none⟩=some (.slice (some ⟨B,0,none⟩) ss.length ss.length):=by rw[gi];simp
 have x0:w0.cell? ⟨w.heap.size+1,0,none⟩=some (.string o.kind):=by rw[gi];simp
 have x1:w0.cell? ⟨w.heap.size+1,1,none⟩=some (.string o.name):=by rw[gi];simp
 have x2:w0.cell? ⟨w.heap.size+1,2,none⟩=some (.string o.team):=by rw[gi];simp
 have x3:w0.cell? ⟨w.heap.size+1,3,none⟩=some (.slice (some ⟨b1,0,none⟩) o.values.length c1):=by rw[gi];simp
 have x4:w0.cell? ⟨w.heap.size+1,4,none⟩=some (.bool o.ending):=by rw[gi];simp
 have x5:w0.cell? ⟨w.heap.size+1,5,none⟩=some (.slice (some ⟨b2,0,none⟩) o.holds.length c2):=by rw[gi];simp
 have x6:w0.cell? ⟨w.heap.size+1,6,none⟩=some (.int .i64 o.version):=by rw[gi];simp
 clear eQ;go_enter Tryz.func127,Tryz.ntmps127
 go_upto_region 1 with fail
 rw[← gi];clear gi;go_wp2_with fail
 refine(jg w B ss o _ _ _ _ w0 HA.out.1 fT.out).mono ?_;rintro e w1 ⟨a,n,c,rfl,kD,bj⟩;have cN:=hid (aa fT.out bj);have dD:Hid (w.heap.size+1<w1.heap.size∧w1.cell? ⟨w.heap.size+1,0,none⟩=some (.string o.kind)∧w1.cell? ⟨w.heap.size+1,3,none⟩=some (.slice (some ⟨b1,0,none⟩) o.values.length c1)):=
  ⟨lo hx bj.size,(bj.cell (p:=⟨w.heap.size+1,0,none⟩) hx).trans x0,(bj.cell (p:=⟨w.heap.size+1,3,none⟩) hx).trans x3⟩
 obtain⟨R,hR⟩:∃ R,R=aP ss o:=⟨_,rfl⟩
 rw[← hR]at kD ⊢;have fA:=hid hR;have mW:=hid kD;clear hR kD bj x0 x1 x2 x3 x4 x5 x6 a0 hx I2 fT;cases R
 ·have HF:Hid (bU ss o res=0):=by show bU ss o res=0;unfold bU;rw[← fA.out];rfl
  go_wp2;go_ret;exact⟨Pl.aS HF.out.symm,cN.out⟩
 cases hem:res.toList.isEmpty
 case true=>
  have HF:Hid (bU ss o res=0):=by show bU ss o res=0;unfold bU;rw[hem];simp
  go_wp2;go_ret;exact⟨Pl.aS HF.out.symm,cN.out⟩
 obtain⟨b,hv,gK,hf⟩:=mW.out rfl;obtain⟨fs,dV⟩:∃ fs,fs=(ss.getD (aB ss o.kind) Shp.none).fields:=⟨_,rfl⟩
 rw[← dV]at hv hf;injection hv with oS qY qS
 subst oS qY qS;have uS:o.values.length=fs.length:=by
  have:=fA.out.symm;unfold aP at this;rw[← dV]at this;simp at this;exact this.2
 have qg:Hid (b<w.heap.size∧(∀ i,i<fs.length→bp w b (i*11) (fs.getD i Fld.none))∧fs.length≤1048576):=⟨gK,hf,by omega⟩
 have HF:Hid (bU ss o res=one (res.toList==o.kind.toList)+ca fs o.values res fs.length):=by show bU ss o res=_;unfold bU;rw[← fA.out,hem,← dV];rfl
 clear gK hf dV mW fA;have y0:=dD.out.2.1;have yz:=dD.out.1;obtain⟨kb,F1⟩:∃ kb,kb=(res.toList==o.kind.toList):=⟨_,rfl⟩
 have Le:=hid F1;have DJ:Hid (∀ k,0≤one kb+ca fs o.values res k∧one kb+ca fs o.values res k≤1+k*9999999):=by
  intro k;have:=i6 fs o.values res k;cases kb<;>simp[one]<;>omega
 have Lx:=F1.symm;obtain⟨K,hK⟩:∃ K,K=one kb:=⟨_,rfl⟩
 have HK:=hid hK;rw[← hK]at DJ;clear F1 hK;cases kb
 all_goals
  go_wp2;clear y0 yz;go_loopw [9,10,11] (fun s9 xX s11 wr=>∃ q:Nat,q≤fs.length∧xX=.int .i64 q∧s9=.int .i64 (K+ca fs o.values res q)∧Bel w1 wr) (fun _ xX _ _=>fs.length - (intOf xX).toNat)
  case atStart=>exact⟨0,nz,rfl,by rw[HK.out];rfl,br⟩
  case round=>
   obtain⟨q,hq,rfl,rfl,hW⟩:=hrel;have Dw:=qg.out.2.2;have K2:=DJ.out q;have DL:=(hW.cell (p:=⟨w.heap.size+1,3,none⟩) dD.out.1).trans dD.out.2.2;have vN:=lo dD.out.1 hW.size;have fu:=hid (aa cN.out hW);obtain⟨sm,dO⟩:∃ sm,sm=K+ca fs o.values res q:=⟨_,rfl⟩
   have nb:=hid dO;rw[← dO]at K2 ⊢;clear dO;by_cases aw:q<fs.length
   ·obtain⟨f,hf⟩:∃ f,f=fs.getD q Fld.none:=⟨_,rfl⟩
    obtain⟨v,hv⟩:∃ v,v=o.values.getD q ByteArray.empty:=⟨_,rfl⟩
    obtain⟨bw,_,_,dP⟩:=qg.out.2.1 q aw;rw[← hf]at dP;have c:=fun j=>fu.out.cell (p:=⟨b,j,none⟩) qg.out.1;have f1:=(c _).trans dP.c1;have f10:=(c _).trans dP.c10;have AQ:=lo qg.out.1 fu.out.size;have uU:=lo HA.out.2.lt1 fu.out.size;have v1:=(fu.out.cell (p:=⟨b1,q,none⟩) HA.out.2.lt1).trans (HA.out.2.at1 q (by omega));rw[← hv]at v1;have I8:v.size≤maxLen:=by rw[hv];exact hz q (by omega)
    have gS:Hid (ca fs o.values res (q+1)=ca fs o.values res q+cg f v res):=by show ca _ _ _ _=_;simp only[ca];rw[← hf,← hv]
    have HN:=hid (jy v wr I8);have Jy:=rv v;have Jq:=gU v;obtain⟨kn,Fq⟩:∃ kn,kn=Pl.g8 v:=⟨_,rfl⟩
    rw[← Fq]at Jy;have JE:=hid Jy;have hk1:kn≤9999999:=by rw[Jy]at Jq;split at Jq<;>omega
    rw[← Fq]at HN;clear hf hv I8 dP c Fq Jy Jq;go_wp2_with fail
    refine HN.out.mono ?_;rintro e wx ⟨rfl,rfl⟩;cases h1:(f.kind==1)
    ·have HE:Hid (cg f v res=0):=by show cg f v res=0;unfold cg;rw[h1];rfl
     go_wp2;go_roundw
     case rel=>exact⟨q+1,by omega,by go_num,by rw[gS.out,HE.out,nb.out,Int.add_zero],hW⟩
     case measure=>simp[intOf];omega
    ·cases h2:(f.we.toList==res.toList)
     ·have HE:Hid (cg f v res=0):=by show cg f v res=0;unfold cg;rw[h1,h2];rfl
      go_wp2;go_roundw
      case rel=>exact⟨q+1,by omega,by go_num,by rw[gS.out,HE.out,nb.out,Int.add_zero],hW⟩
      case measure=>simp[intOf];omega
     ·have HE:Hid (cg f v res=dh v):=by show cg f v res=_;unfold cg;rw[h1,h2];rfl
      by_cases h3:0<kn
      ·have HD:Hid (dh v=kn):=by show dh v=kn;rw[JE.out,if_pos h3]
       go_wp2;go_roundw
       case rel=>exact⟨q+1,by omega,by go_num,by rw[gS.out,HE.out,HD.out,← Int.add_assoc,← nb.out],hW⟩
       case measure=>simp[intOf];omega
      ·have HD:Hid (dh v=0):=by show dh v=0;rw[JE.out,if_neg h3]
       have DK:decide (0<kn)=false:=by simpa using h3
       go_wp2;go_roundw
       case rel=>exact⟨q+1,by omega,by go_num,by rw[gS.out,HE.out,HD.out,nb.out,Int.add_zero],hW⟩
       case measure=>simp[intOf];omega
   ·obtain rfl:q=fs.length:=by omega
    go_wp2;go_ret;exact⟨Pl.aS (by rw[HF.out,← Le.out,← HK.out,nb.out]),fu.out⟩
theorem BT (B:Nat) (u1 u2:Value) (ss:List Shp) (o:Ob) (b1 c1 b2 c2:Nat) (res:ByteArray) (w:World) (h:bd w B ss) (ho:iW w b1 b2 o) (hz:∀ i,i<o.values.length→(o.values.getD i ByteArray.empty).size≤maxLen):
  Calls Tryz.prog 190 #[.agg #[.slice (some ⟨B,0,none⟩) ss.length ss.length,u1,u2],.agg #[.string o.kind,.string o.name,.string o.team,.slice (some ⟨b1,0,none⟩) o.values.length c1,.bool o.ending,.slice (some ⟨b2,0,none⟩) o.holds.length c2,.int .i64 o.version],.string res] w fun e w'=>e=.returned (.int .i64 (bU ss o res))∧Bel w w':=by
 have HA:=hid (And.intro h ho);have s6:=ho.len1;clear h ho;obtain⟨w0,gi⟩:∃ w0,w0=(w.alloc (.cells #[.slice (some ⟨B,0,none⟩) ss.length ss.length,u1,u2] 40)).alloc (.cells #[.string o.kind,.string o.name,.string o.team,.slice (some ⟨b1,0,none⟩) o.values.length c1,.bool o.ending,.slice (some ⟨b2,0,none⟩) o.holds.length c2,.int .i64 o.version] 111):=⟨_,rfl⟩
 have fT:Hid (Bel w w0):=by show Below _ _ _;rw[gi];exact ab (ab br _) _
 have eQ:w0.heap.size=w.heap.size+2:=by rw[gi];simp
 have hx:w.heap.size+1<w0.heap.size:=by omega
 have I2:w.heap.size<w0.heap.size:=by omega
 have a0:w0.cell? ⟨w.heap.size,0,none⟩=some (.slice (some ⟨B,0,none⟩) ss.length ss.length):=by rw[gi];simp
 have x0:w0.cell? ⟨w.heap.size+1,0,none⟩=some (.string o.kind):=by rw[gi];simp
 have x3:w0.cell? ⟨w.heap.size+1,3,none⟩=some (.slice (some ⟨b1,0,none⟩) o.values.length c1):=by rw[gi];simp
 clear eQ;go_enter Tryz.func190,Tryz.ntmps190
 go_upto_region 1 with fail
 rw[← gi];clear gi;go_wp2_with fail
 refine(jB w B ss o.kind w0 HA.out.1 fT.out).mono ?_;rintro e w1 ⟨kd,a,n,c,rfl,kD,bj⟩;have cN:=hid (aa fT.out bj);have dD:Hid (w.heap.size+1<w1.heap.size∧w1.cell? ⟨w.heap.size+1,0,none⟩=some (.string o.kind)∧w1.cell? ⟨w.heap.size+1,3,none⟩=some (.slice (some ⟨b1,0,none⟩) o.values.length c1)):=
  ⟨lo hx bj.size,(bj.cell (p:=⟨w.heap.size+1,0,none⟩) hx).trans x0,(bj.cell (p:=⟨w.heap.size+1,3,none⟩) hx).trans x3⟩
 obtain⟨R,hR⟩:∃ R,R=aJ ss o.kind:=⟨_,rfl⟩
 rw[← hR];have fA:=hid hR;have mW:=hid kD;clear hR kD bj x0 x3 a0 hx I2 fT;have yz:=dD.out.1;have y0:=dD.out.2.1;have y3:=dD.out.2.2;have jU:Hid (Bel w (w1.alloc (.cells #[.string kd,.slice a n c] 134))):=ab cN.out _;cases hem:res.toList.isEmpty
 case true=>
  have HF:Hid (bU ss o res=0):=by show bU ss o res=0;unfold bU;rw[hem];simp
  go_wp2;go_ret;exact⟨Pl.aS HF.out.symm,jU.out⟩
 case false=>
 cases R
 ·have HF:Hid (bU ss o res=0):=by show bU ss o res=0;unfold bU aP;rw[← fA.out];rfl
  go_wp2;go_ret;exact⟨Pl.aS HF.out.symm,jU.out⟩
 obtain⟨x8,b,hv,gK,hf⟩:=mW.out fA.out.symm;obtain⟨fs,dV⟩:∃ fs,fs=(ss.getD (aB ss o.kind) Shp.none).fields:=⟨_,rfl⟩
 rw[← dV]at hv hf;injection hv with oS qY qS
 subst oS qY qS;by_cases heq:o.values.length=fs.length
 case neg=>
  have HF:Hid (bU ss o res=0):=by show bU ss o res=0;unfold bU aP;rw[← dV,decide_eq_false heq];simp
  have fa:(((o.values.length:Int)) !=(fs.length:Int))=true:=by simp;omega
  clear x8 gK hf dV mW fA;go_wp2_with fail
  all_goals (try (go_quiet (fail)))
  all_goals go_wp2
  go_ret;exact⟨Pl.aS HF.out.symm,by repeat(first|exact jU.out|refine al ?_ _)⟩
 have fa:(((o.values.length:Int)) !=(fs.length:Int))=false:=by simp;omega
 have qg:Hid (b<w.heap.size∧(∀ i,i<fs.length→bp w b (i*11) (fs.getD i Fld.none))∧fs.length≤1048576∧o.values.length=fs.length):=⟨gK,hf,by omega,heq⟩
 have HF:Hid (bU ss o res=one (res.toList==o.kind.toList)+ca fs o.values res fs.length):=by show bU ss o res=_;unfold bU aP;rw[← fA.out,hem,← dV,decide_eq_true heq];rfl
 clear gK hf dV mW fA x8 heq;obtain⟨kb,F1⟩:∃ kb,kb=(res.toList==o.kind.toList):=⟨_,rfl⟩
 have Le:=hid F1;have DJ:Hid (∀ k,0≤one kb+ca fs o.values res k∧one kb+ca fs o.values res k≤1+k*9999999):=by
  intro k;have:=i6 fs o.values res k;cases kb<;>simp[one]<;>omega
 have Lx:=F1.symm;obtain⟨K,hK⟩:∃ K,K=one kb:=⟨_,rfl⟩
 have HK:=hid hK;rw[← hK]at DJ;clear F1 hK;obtain⟨w2,i3⟩:∃ w2,w2=w1.alloc (.cells #[.string kd,.slice (some ⟨b,0,none⟩) fs.length fs.length] 134):=⟨_,rfl⟩
 rw[← i3]at jU;have JH:Hid (w.heap.size+1<w2.heap.size∧w2.cell? ⟨w.heap.size+1,0,none⟩=some (.string o.kind)∧w2.cell? ⟨w.heap.size+1,3,none⟩=some (.slice (some ⟨b1,0,none⟩) o.values.length c1)):=by
  show _∧_∧_;rw[i3];exact⟨by simp;omega,(World.cell?_alloc_past _ _ _ yz).trans y0,(World.cell?_alloc_past _ _ _ yz).trans y3⟩
 have HS2:Hid (w1.heap.size<w2.heap.size∧w2.cell? ⟨w1.heap.size,0,none⟩=some (.string kd)∧w2.cell? ⟨w1.heap.size,1,none⟩=some (.slice (some ⟨b,0,none⟩) fs.length fs.length)):=by
  show _∧_∧_;rw[i3];exact⟨by simp,by simp,by simp⟩
 go_upto_region 2 with fail
 rw[← i3];clear i3 yz y0 y3;obtain⟨yz,y0,y3⟩:=JH.out;obtain⟨gz,g0,g1⟩:=HS2.out;cases kb
 all_goals
  go_wp2;clear yz y0 y3 gz g0 g1;go_loopw [9,10,11,12,13,44] (fun s9 xX s11 s12 s13 cG wr=>∃ q:Nat,q≤fs.length∧cG=.int .i64 q∧s9=.int .i64 (K+ca fs o.values res q)∧Bel w2 wr) (fun _ _ _ _ _ cG _=>fs.length - (intOf cG).toNat)
  case atStart=>exact⟨0,nz,rfl,by rw[HK.out];rfl,br⟩
  case round=>
   obtain⟨q,hq,rfl,rfl,hW⟩:=hrel;have Dw:=qg.out.2.2.1;have K2:=DJ.out q;have DL:=(hW.cell (p:=⟨w.heap.size+1,3,none⟩) JH.out.1).trans JH.out.2.2;have vN:=lo JH.out.1 hW.size;have fu:=hid (aa jU.out hW);have Fa:Hid (∀ o',Bel w2 (wr.alloc o')):=fun o'=>ab hW o';obtain⟨sm,dO⟩:∃ sm,sm=K+ca fs o.values res q:=⟨_,rfl⟩
   have nb:=hid dO;rw[← dO]at K2 ⊢;clear dO;by_cases aw:q<fs.length
   ·have hvq:q<o.values.length:=by rw[qg.out.2.2.2];exact aw
    obtain⟨f,hf⟩:∃ f,f=fs.getD q Fld.none:=⟨_,rfl⟩
    obtain⟨v,hv⟩:∃ v,v=o.values.getD q ByteArray.empty:=⟨_,rfl⟩
    obtain⟨bw,_,_,dP⟩:=qg.out.2.1 q aw;rw[← hf]at dP;have c:=fun j=>fu.out.cell (p:=⟨b,j,none⟩) qg.out.1;have f0:=(c _).trans dP.c0;have f1:=(c _).trans dP.c1;have f2:=(c _).trans dP.c2;have f3:=(c _).trans dP.c3;have f4:=(c _).trans dP.c4;have f5:=(c _).trans dP.c5;have f6:=(c _).trans dP.c6;have f7:=(c _).trans dP.c7;have f8:=(c _).trans dP.c8;have f9:=(c _).trans dP.c9;have f10:=(c _).trans dP.c10;have AQ:=lo qg.out.1 fu.out.size;have uU:=lo HA.out.2.lt1 fu.out.size;have v1:=(fu.out.cell (p:=⟨b1,q,none⟩) HA.out.2.lt1).trans (HA.out.2.at1 q hvq);rw[← hv]at v1;have I8:v.size≤maxLen:=by rw[hv];exact hz q hvq
    have gS:Hid (ca fs o.values res (q+1)=ca fs o.values res q+cg f v res):=by show ca _ _ _ _=_;simp only[ca];rw[← hf,← hv]
    have HN:=hid fun (W:World)=>jZ v W I8;have Jq:=gU v;obtain⟨kn,Fq⟩:∃ kn,kn=dh v:=⟨_,rfl⟩
    have JE:=hid Fq.symm;rw[← Fq]at HN Jq;clear hf hv I8 dP c Fq;cases h1:(f.kind==1)
    ·have HE:Hid (cg f v res=0):=by show cg f v res=0;unfold cg;rw[h1];rfl
     go_wp2;go_roundw
     case rel=>exact⟨q+1,by omega,by go_num,by rw[gS.out,HE.out,nb.out,Int.add_zero],Fa.out _⟩
     case measure=>simp[intOf];omega
    ·cases h2:(f.we.toList==res.toList)
     ·have HE:Hid (cg f v res=0):=by show cg f v res=0;unfold cg;rw[h1,h2];rfl
      go_wp2;go_roundw
      case rel=>exact⟨q+1,by omega,by go_num,by rw[gS.out,HE.out,nb.out,Int.add_zero],Fa.out _⟩
      case measure=>simp[intOf];omega
     ·have HE:Hid (cg f v res=dh v):=by show cg f v res=_;unfold cg;rw[h1,h2];rfl
      go_wp2_with fail
      refine(HN.out _).mono ?_;rintro e wx ⟨rfl,rfl⟩;go_wp2;go_roundw
      case rel=>exact⟨q+1,by omega,by go_num,by rw[gS.out,HE.out,JE.out,← Int.add_assoc,← nb.out],Fa.out _⟩
      case measure=>simp[intOf];omega
   ·obtain rfl:q=fs.length:=by omega
    go_wp2;go_ret;exact⟨Pl.aS (by rw[HF.out,← Le.out,← HK.out,nb.out]),fu.out⟩
def fo (L:Lw) (os:List Ob) (team res:ByteArray):Nat→Int
 |0=>0
 |k+1=>if under L.teams (os.getD k Ob.none).team team then wrap64 (fo L os team res k+bU L.shapes (os.getD k Ob.none) res) else fo L os team res k
def used (L:Lw) (K:Bk) (team res:ByteArray):Int:=fo L K.objects team res K.objects.length
theorem C8 (L:Lw) (K:Bk) (a0 a1 a2 e0 e1 e2 e3:Nat) (team res:ByteArray) (w:World) (hL:iy w a0 a1 a2 L) (hK:gp w e0 e1 e2 e3 K):
  Calls Tryz.prog 72 #[.agg #[.slice (some ⟨a0,0,none⟩) L.shapes.length L.shapes.length,.slice (some ⟨a1,0,none⟩) L.mends.length L.mends.length,.slice (some ⟨a2,0,none⟩) L.teams.length L.teams.length],.agg #[.int .i64 K.now,.int .i64 K.tick,.int .i64 K.given,.slice (some ⟨e0,0,none⟩) K.objects.length K.objects.length,.slice (some ⟨e1,0,none⟩) K.grants.length K.grants.length,.slice (some ⟨e2,0,none⟩) K.ledgers.length K.ledgers.length,.slice (some ⟨e3,0,none⟩) K.purses.length K.purses.length],.string team,.string res] w fun e w'=>e=.returned (.int .i64 (used L K team res))∧Bel w w':=by
 have HA:=hid (And.intro hL hK);have hl:=hK.o.len;clear hL hK;obtain⟨w1,dW⟩:∃ w1,w1=(w.alloc (.cells #[.slice (some ⟨a0,0,none⟩) L.shapes.length L.shapes.length,.slice (some ⟨a1,0,none⟩) L.mends.length L.mends.length,.slice (some ⟨a2,0,none⟩) L.teams.length L.teams.length] 40)).alloc (.cells #[.int .i64 K.now,.int .i64 K.tick,.int .i64 K.given,.slice (some ⟨e0,0,none⟩) K.objects.length K.objects.length,.slice (some ⟨e1,0,none⟩) K.grants.length K.grants.length,.slice (some ⟨e2,0,none⟩) K.ledgers.length K.ledgers.length,.slice (some ⟨e3,0,none⟩) K.purses.length K.purses.length] 47):=⟨_,rfl⟩
 have cN:Hid (Bel w w1):=by show Below _ _ _;rw[dW];exact ab (ab br _) _
 have dD:Hid (ch w1 w.heap.size (.slice (some ⟨a0,0,none⟩) L.shapes.length L.shapes.length) (.slice (some ⟨a1,0,none⟩) L.mends.length L.mends.length) (.slice (some ⟨a2,0,none⟩) L.teams.length L.teams.length)∧bm w1 (w.heap.size+1) (.int .i64 K.now) (.int .i64 K.tick) (.int .i64 K.given) (.slice (some ⟨e0,0,none⟩) K.objects.length K.objects.length) (.slice (some ⟨e1,0,none⟩) K.grants.length K.grants.length) (.slice (some ⟨e2,0,none⟩) K.ledgers.length K.ledgers.length) (.slice (some ⟨e3,0,none⟩) K.purses.length K.purses.length)):=by show _∧_;rw[dW];exact⟨(ch.bV w _ _ _ _ _ rfl).ek _,bm.bV _ _ _ _ _ _ _ _ _ _ (by simp)⟩
 obtain⟨lz,l0,l1,l2⟩:=dD.out.1;obtain⟨kz,k0,k1,k2,k3,k4,k5,k6⟩:=dD.out.2;go_enter Tryz.func72,Tryz.ntmps72
 go_upto_region 1 with fail
 rw[← dW];clear dW;go_wp2;clear lz l0 l1 l2 kz k0 k1 k2 k3 k4 k5 k6;go_loopw [9,10] (fun s9 xX wr=>∃ q:Nat,q≤K.objects.length∧xX=.int .i64 q∧s9=.int .i64 (fo L K.objects team res q)∧Bel w1 wr) (fun _ xX _=>K.objects.length - (intOf xX).toNat)
 case atStart=>exact⟨0,nz,rfl,rfl,br⟩
 case round=>
   obtain⟨q,hq,rfl,rfl,hW⟩:=hrel;obtain⟨lz,l0,l1,l2⟩:=dD.out.1.later hW;obtain⟨kz,k0,k1,k2,k3,k4,k5,k6⟩:=dD.out.2.later hW;obtain⟨sm,dO⟩:∃ sm,sm=fo L K.objects team res q:=⟨_,rfl⟩
   have nb:=hid dO;rw[← dO];clear dO;have fu:=hid (aa cN.out hW);have qX:=hid hW;by_cases aw:q<K.objects.length
   ·obtain⟨o,ho⟩:∃ o,o=K.objects.getD q Ob.none:=⟨_,rfl⟩
    obtain⟨b1,b2,_,c0,c1,c2,c3,c4,c5,c6,sR⟩:=(HA.out.2.later fu.out).o.at_ q aw;rw[← ho]at c0 c1 c2 c3 c4 c5 c6 sR;have gx:=(HA.out.2.later fu.out).o.lt;have gS:Hid (fo L K.objects team res (q+1)=if under L.teams o.team team then wrap64 (fo L K.objects team res q+bU L.shapes o res) else fo L K.objects team res q):=by show fo _ _ _ _ _=_;simp only[fo];rw[← ho]
    have kB:=hid (And.intro sR (HA.out.1.later fu.out));have HU:=hid fun (W:World) (hW:Bel wr W)=>EF a2 L.teams o.team team W (kB.out.2.later hW).t;have HG:Hid (∀ W,Bel wr W→Calls Tryz.prog 127 #[.agg #[.slice (some ⟨a0,0,none⟩) L.shapes.length L.shapes.length,.slice (some ⟨a1,0,none⟩) L.mends.length L.mends.length,.slice (some ⟨a2,0,none⟩) L.teams.length L.teams.length],.agg #[.string o.kind,.string o.name,.string o.team,.slice (some ⟨b1,0,none⟩) o.values.length o.values.length,.bool o.ending,.slice (some ⟨b2,0,none⟩) o.holds.length o.holds.length,.int .i64 o.version],.string res] W fun e w'=>e=.returned (.int .i64 (bU L.shapes o res))∧Bel W w'):=fun W hW=>Co a0 _ _ L.shapes o b1 _ b2 _ res W (kB.out.2.later hW).s (kB.out.1.later hW).arg kB.out.1.z1;obtain⟨wg,uL⟩:∃ wg,wg=bU L.shapes o res:=⟨_,rfl⟩
    rw[← uL]at HG gS;obtain⟨bu,Ih⟩:∃ bu,bu=under L.teams o.team team:=⟨_,rfl⟩
    rw[← Ih]at HU gS;clear uL Ih ho sR;go_wp2_with fail
    go_region_with (go_at_call 126;refine(HU.out _ ?_).mono ?_;(repeat(first|exact br|refine Below.drew ?_));rintro e w2 ⟨rfl,rfl⟩)
    all_goals
     cases bu
     ·go_wp2;go_roundw
      case rel=>exact⟨q+1,by omega,by go_num,by rw[gS.out,nb.out];rfl,by repeat(first|exact qX.out|refine Below.drew ?_)⟩
      case measure=>simp[intOf];omega
     ·go_wp2_with fail
      go_region_with (go_at_call 127;refine(HG.out _ ?_).mono ?_;(repeat(first|exact br|refine Below.drew ?_));rintro e w3 ⟨rfl,aQ⟩;have k3':Bel wr w3:=aa (by repeat(first|exact br|refine Below.drew ?_)) aQ;clear aQ)
      all_goals
       go_wp2;go_roundw
       case rel=>exact⟨q+1,by omega,by go_num,by rw[gS.out,nb.out];rfl,by repeat(first|exact aa qX.out k3'|refine Below.drew ?_)⟩
       case measure=>simp[intOf];omega
   ·obtain rfl:q=K.objects.length:=by omega
    go_wp2;go_ret;exact⟨Pl.aS (by rw[nb.out];rfl),fu.out⟩
theorem Ha (L:Lw) (K:Bk) (a0 a1 a2 e0 e1 e2 e3:Nat) (team res:ByteArray) (w:World) (hL:iy w a0 a1 a2 L) (hK:gp w e0 e1 e2 e3 K):
  Calls Tryz.prog 150 #[.agg #[.slice (some ⟨a0,0,none⟩) L.shapes.length L.shapes.length,.slice (some ⟨a1,0,none⟩) L.mends.length L.mends.length,.slice (some ⟨a2,0,none⟩) L.teams.length L.teams.length],.agg #[.int .i64 K.now,.int .i64 K.tick,.int .i64 K.given,.slice (some ⟨e0,0,none⟩) K.objects.length K.objects.length,.slice (some ⟨e1,0,none⟩) K.grants.length K.grants.length,.slice (some ⟨e2,0,none⟩) K.ledgers.length K.ledgers.length,.slice (some ⟨e3,0,none⟩) K.purses.length K.purses.length],.string team,.string res] w fun e w'=>e=.returned (.int .i64 (used L K team res))∧Bel w w':=by
 have HA:=hid (And.intro hL hK);have hl:=hK.o.len;clear hL hK;obtain⟨w1,dW⟩:∃ w1,w1=(w.alloc (.cells #[.slice (some ⟨a0,0,none⟩) L.shapes.length L.shapes.length,.slice (some ⟨a1,0,none⟩) L.mends.length L.mends.length,.slice (some ⟨a2,0,none⟩) L.teams.length L.teams.length] 40)).alloc (.cells #[.int .i64 K.now,.int .i64 K.tick,.int .i64 K.given,.slice (some ⟨e0,0,none⟩) K.objects.length K.objects.length,.slice (some ⟨e1,0,none⟩) K.grants.length K.grants.length,.slice (some ⟨e2,0,none⟩) K.ledgers.length K.ledgers.length,.slice (some ⟨e3,0,none⟩) K.purses.length K.purses.length] 47):=⟨_,rfl⟩
 have cN:Hid (Bel w w1):=by show Below _ _ _;rw[dW];exact ab (ab br _) _
 have dD:Hid (ch w1 w.heap.size (.slice (some ⟨a0,0,none⟩) L.shapes.length L.shapes.length) (.slice (some ⟨a1,0,none⟩) L.mends.length L.mends.length) (.slice (some ⟨a2,0,none⟩) L.teams.length L.teams.length)∧bm w1 (w.heap.size+1) (.int .i64 K.now) (.int .i64 K.tick) (.int .i64 K.given) (.slice (some ⟨e0,0,none⟩) K.objects.length K.objects.length) (.slice (some ⟨e1,0,none⟩) K.grants.length K.grants.length) (.slice (some ⟨e2,0,none⟩) K.ledgers.length K.ledgers.length) (.slice (some ⟨e3,0,none⟩) K.purses.length K.purses.length)):=by show _∧_;rw[dW];exact⟨(ch.bV w _ _ _ _ _ rfl).ek _,bm.bV _ _ _ _ _ _ _ _ _ _ (by simp)⟩
 obtain⟨lz,l0,l1,l2⟩:=dD.out.1;obtain⟨kz,k0,k1,k2,k3,k4,k5,k6⟩:=dD.out.2;go_enter Tryz.func150,Tryz.ntmps150
 go_upto_region 1 with fail
 rw[← dW];clear dW;go_wp2;clear lz l0 l1 l2 kz k0 k1 k2 k3 k4 k5 k6;go_loopw [9,11,15] (fun s9 s11 s15 wr=>∃ q:Nat,q≤K.objects.length∧s15=.int .i64 q∧s9=.int .i64 (fo L K.objects team res q)∧Bel w1 wr) (fun _ _ s15 _=>K.objects.length - (intOf s15).toNat)
 case atStart=>exact⟨0,nz,rfl,rfl,br⟩
 case round=>
   obtain⟨q,hq,rfl,rfl,hW⟩:=hrel;obtain⟨lz,l0,l1,l2⟩:=dD.out.1.later hW;obtain⟨kz,k0,k1,k2,k3,k4,k5,k6⟩:=dD.out.2.later hW;obtain⟨sm,dO⟩:∃ sm,sm=fo L K.objects team res q:=⟨_,rfl⟩
   have nb:=hid dO;rw[← dO];clear dO;have fu:=hid (aa cN.out hW);have qX:=hid hW;by_cases aw:q<K.objects.length
   ·obtain⟨o,ho⟩:∃ o,o=K.objects.getD q Ob.none:=⟨_,rfl⟩
    obtain⟨b1,b2,_,c0,c1,c2,c3,c4,c5,c6,sR⟩:=(HA.out.2.later fu.out).o.at_ q aw;rw[← ho]at c0 c1 c2 c3 c4 c5 c6 sR;have gx:=(HA.out.2.later fu.out).o.lt;have gS:Hid (fo L K.objects team res (q+1)=if under L.teams o.team team then wrap64 (fo L K.objects team res q+bU L.shapes o res) else fo L K.objects team res q):=by show fo _ _ _ _ _=_;simp only[fo];rw[← ho]
    have kB:=hid (And.intro sR (HA.out.1.later fu.out));have HU:=hid fun (W:World) (hW:Bel wr W)=>EC a2 L.teams o.team team W (kB.out.2.later hW).t;have HG:Hid (∀ W,Bel wr W→Calls Tryz.prog 190 #[.agg #[.slice (some ⟨a0,0,none⟩) L.shapes.length L.shapes.length,.slice (some ⟨a1,0,none⟩) L.mends.length L.mends.length,.slice (some ⟨a2,0,none⟩) L.teams.length L.teams.length],.agg #[.string o.kind,.string o.name,.string o.team,.slice (some ⟨b1,0,none⟩) o.values.length o.values.length,.bool o.ending,.slice (some ⟨b2,0,none⟩) o.holds.length o.holds.length,.int .i64 o.version],.string res] W fun e w'=>e=.returned (.int .i64 (bU L.shapes o res))∧Bel W w'):=fun W hW=>BT a0 _ _ L.shapes o b1 _ b2 _ res W (kB.out.2.later hW).s (kB.out.1.later hW).arg kB.out.1.z1;obtain⟨wg,uL⟩:∃ wg,wg=bU L.shapes o res:=⟨_,rfl⟩
    rw[← uL]at HG gS;obtain⟨bu,Ih⟩:∃ bu,bu=under L.teams o.team team:=⟨_,rfl⟩
    rw[← Ih]at HU gS;clear uL Ih ho sR;obtain⟨wx,JU⟩:∃ wx,wx=wr.alloc (.cells #[.string o.kind,.string o.name,.string o.team,.slice (some ⟨b1,0,none⟩) o.values.length o.values.length,.bool o.ending,.slice (some ⟨b2,0,none⟩) o.holds.length o.holds.length,.int .i64 o.version] 111):=⟨_,rfl⟩
    have Kn:Hid (Bel wr wx):=by show Below _ _ _;rw[JU];exact ab br _
    have oR:Hid (bm wx wr.heap.size (.string o.kind) (.string o.name) (.string o.team) (.slice (some ⟨b1,0,none⟩) o.values.length o.values.length) (.bool o.ending) (.slice (some ⟨b2,0,none⟩) o.holds.length o.holds.length) (.int .i64 o.version)∧ch wx w.heap.size (.slice (some ⟨a0,0,none⟩) L.shapes.length L.shapes.length) (.slice (some ⟨a1,0,none⟩) L.mends.length L.mends.length) (.slice (some ⟨a2,0,none⟩) L.teams.length L.teams.length)):=by
     show _∧_;rw[JU];exact⟨bm.bV _ _ _ _ _ _ _ _ _ _ rfl,((dD.out.1.later qX.out).later (ab br _))⟩
    go_upto_region 5 with fail
    rw[← JU];clear JU lz l0 l1 l2 kz k0 k1 k2 k3 k4 k5 k6 c0 c1 c2 c3 c4 c5 c6 gx;obtain⟨xz,x0,x1,x2,x3,x4,x5,x6⟩:=oR.out.1;obtain⟨lz,l0,l1,l2⟩:=oR.out.2;go_wp2_with fail
    refine(HU.out _ Kn.out).mono ?_;rintro e w2 ⟨rfl,aA⟩;have iB:=hid (aa Kn.out aA);have jU:=hid (And.intro (oR.out.1.later aA) (oR.out.2.later aA));clear aA xz x0 x1 x2 x3 x4 x5 x6 lz l0 l1 l2 oR Kn;cases bu
    ·go_wp2;go_roundw
     case rel=>exact⟨q+1,by omega,by go_num,by rw[gS.out,nb.out];rfl,aa qX.out iB.out⟩
     case measure=>simp[intOf];omega
    ·obtain⟨xz,x0,x1,x2,x3,x4,x5,x6⟩:=jU.out.1;obtain⟨lz,l0,l1,l2⟩:=jU.out.2;go_wp2_with fail
     refine(HG.out _ iB.out).mono ?_;rintro e w3 ⟨rfl,aQ⟩;have xP:=hid (aa iB.out aQ);clear aQ xz x0 x1 x2 x3 x4 x5 x6 lz l0 l1 l2;go_wp2;go_roundw
     case rel=>exact⟨q+1,by omega,by go_num,by rw[gS.out,nb.out];rfl,aa qX.out xP.out⟩
     case measure=>simp[intOf];omega
   ·obtain rfl:q=K.objects.length:=by omega
    go_wp2;go_ret;exact⟨Pl.aS (by rw[nb.out];rfl),fu.out⟩
theorem vo {α:Type} {p:α→Bool} {l:List α} {d:α} {k:Nat} (hk:k<l.length) (hn:k≤l.findIdx p) (hp:p (l.getD k d)=false):k+1≤l.findIdx p:=by
 refine Nat.lt_of_le_of_ne hn fun e=> ?_;have aw:l.findIdx p<l.length:=by omega
 have:=List.findIdx_getElem (w:=aw);have e2:l.getD k d=l[l.findIdx p]:=by simp[hk,← e]
 rw[e2,this]at hp;cases hp
theorem Al {α:Type} {p:α→Bool} {l:List α} {d:α} {k:Nat} (hk:k<l.length) (hn:k≤l.findIdx p) (hp:p (l.getD k d)=true):l.findIdx p=k:=by
 refine Nat.le_antisymm (Nat.le_of_not_lt fun h=> ?_) hn;have:=List.not_of_lt_findIdx h;have e2:l.getD k d=l[k]:=by simp[hk]
 rw[e2]at hp;rw[this]at hp;cases hp
def eg (i n:Nat):Int:=if i<n then (i:Int) else -1
def lF (kd nm:ByteArray) (x:Ob):Bool:=(x.kind.toList==kd.toList)&&(x.name.toList==nm.toList)
def kF (l:List Ob) (kd nm:ByteArray):Nat:=l.findIdx (lF kd nm)
theorem Dh (K:Bk) (e0 e1 e2 e3:Nat) (kd nm:ByteArray) (w:World) (h:gp w e0 e1 e2 e3 K):
  Calls Tryz.prog 67 #[.agg #[.int .i64 K.now,.int .i64 K.tick,.int .i64 K.given,.slice (some ⟨e0,0,none⟩) K.objects.length K.objects.length,.slice (some ⟨e1,0,none⟩) K.grants.length K.grants.length,.slice (some ⟨e2,0,none⟩) K.ledgers.length K.ledgers.length,.slice (some ⟨e3,0,none⟩) K.purses.length K.purses.length],.string kd,.string nm] w fun e w'=>e=.returned (.int .i64 (eg (kF K.objects kd nm) K.objects.length))∧Bel w w':=by
 have HH:=hid h;have hl:=h.o.len;clear h;obtain⟨R,hR⟩:∃ R,R=eg (kF K.objects kd nm) K.objects.length:=⟨_,rfl⟩
 have HR:=hid hR;rw[← hR];clear hR;obtain⟨wa,dX⟩:∃ wa,wa=w.alloc (.cells #[.int .i64 K.now,.int .i64 K.tick,.int .i64 K.given,.slice (some ⟨e0,0,none⟩) K.objects.length K.objects.length,.slice (some ⟨e1,0,none⟩) K.grants.length K.grants.length,.slice (some ⟨e2,0,none⟩) K.ledgers.length K.ledgers.length,.slice (some ⟨e3,0,none⟩) K.purses.length K.purses.length] 47):=⟨_,rfl⟩
 have ea:Hid (Bel w wa):=by show Below _ _ _;rw[dX];exact ab br _
 have iC:Hid (bm wa w.heap.size (.int .i64 K.now) (.int .i64 K.tick) (.int .i64 K.given) (.slice (some ⟨e0,0,none⟩) K.objects.length K.objects.length) (.slice (some ⟨e1,0,none⟩) K.grants.length K.grants.length) (.slice (some ⟨e2,0,none⟩) K.ledgers.length K.ledgers.length) (.slice (some ⟨e3,0,none⟩) K.purses.length K.purses.length)):=by show bm _ _ _ _ _ _ _ _ _;rw[dX];exact bm.bV w _ _ _ _ _ _ _ _ _ rfl
 go_enter Tryz.func67,Tryz.ntmps67
 go_upto_region 1 with fail
 rw[← dX];clear dX;obtain⟨yz,y0,y1,y2,y3,y4,y5,y6⟩:=iC.out;go_wp2;go_loop [7] (fun i=>∃ q:Nat,q≤K.objects.length∧i=.int .i64 q∧q≤kF K.objects kd nm) (fun i=>K.objects.length - (intOf i).toNat)
 case atStart=>exact⟨0,nz,rfl,nz⟩
 case round=>
  obtain⟨q,hq,rfl,hn⟩:=hrel;have HN:=hid hn;clear hn;by_cases aw:q<K.objects.length
  ·obtain⟨x,hx⟩:∃ x,x=K.objects.getD q Ob.none:=⟨_,rfl⟩
   have bC:=(HH.out.later ea.out).o;have hB:=bC.lt;have eb:=bC.at_ q aw;rw[← hx]at eb;obtain⟨b1,b2,_,c0,c1,c2,c3,c4,c5,c6,_⟩:=eb;have HM:Hid (lF kd nm x=false→q+1≤kF K.objects kd nm):=fun hp=>vo (d:=Ob.none) aw HN.out (by rw[← hx];exact hp);have HT:Hid (lF kd nm x=true→R=(q:Int)):=fun hp=>by
    have e:kF K.objects kd nm=q:=Al (d:=Ob.none) aw HN.out (by rw[← hx];exact hp);rw[HR.out,e];unfold eg;rw[if_pos aw]
   clear hx bC;cases h0:(x.kind.toList==kd.toList)
   ·have HE:=hid (HM.out (by unfold lF;simp[h0]));go_wp2;go_round
    case rel=>exact⟨q+1,by omega,by go_num,HE.out⟩
    case measure=>simp[intOf];omega
   ·skip
    cases h1:(x.name.toList==nm.toList)
    ·have HE:=hid (HM.out (by unfold lF;simp[h0,h1]));go_wp2;go_round
     case rel=>exact⟨q+1,by omega,by go_num,HE.out⟩
     case measure=>simp[intOf];omega
    ·have HE:=hid (HT.out (by unfold lF;simp only[h0,h1];rfl));go_wp2;go_ret;exact⟨Pl.aS HE.out.symm,ea.out⟩
  ·have HE:Hid (R= -1):=by show R= -1;rw[HR.out];unfold eg;rw[if_neg (by have:=HN.out;omega)]
   go_wp2;go_ret;exact⟨Pl.aS HE.out.symm,ea.out⟩
def kP (tm rs:ByteArray) (x:Lg):Bool:=(x.team.toList==tm.toList)&&(x.res.toList==rs.toList)
def il (l:List Lg) (tm rs:ByteArray):Nat:=l.findIdx (kP tm rs)
theorem Dg (K:Bk) (e0 e1 e2 e3:Nat) (tm rs:ByteArray) (w:World) (h:gp w e0 e1 e2 e3 K):
  Calls Tryz.prog 70 #[.agg #[.int .i64 K.now,.int .i64 K.tick,.int .i64 K.given,.slice (some ⟨e0,0,none⟩) K.objects.length K.objects.length,.slice (some ⟨e1,0,none⟩) K.grants.length K.grants.length,.slice (some ⟨e2,0,none⟩) K.ledgers.length K.ledgers.length,.slice (some ⟨e3,0,none⟩) K.purses.length K.purses.length],.string tm,.string rs] w fun e w'=>e=.returned (.int .i64 (eg (il K.ledgers tm rs) K.ledgers.length))∧Bel w w':=by
 have HH:=hid h;have hl:=h.l.len;clear h;obtain⟨R,hR⟩:∃ R,R=eg (il K.ledgers tm rs) K.ledgers.length:=⟨_,rfl⟩
 have HR:=hid hR;rw[← hR];clear hR;obtain⟨wa,dX⟩:∃ wa,wa=w.alloc (.cells #[.int .i64 K.now,.int .i64 K.tick,.int .i64 K.given,.slice (some ⟨e0,0,none⟩) K.objects.length K.objects.length,.slice (some ⟨e1,0,none⟩) K.grants.length K.grants.length,.slice (some ⟨e2,0,none⟩) K.ledgers.length K.ledgers.length,.slice (some ⟨e3,0,none⟩) K.purses.length K.purses.length] 47):=⟨_,rfl⟩
 have ea:Hid (Bel w wa):=by show Below _ _ _;rw[dX];exact ab br _
 have iC:Hid (bm wa w.heap.size (.int .i64 K.now) (.int .i64 K.tick) (.int .i64 K.given) (.slice (some ⟨e0,0,none⟩) K.objects.length K.objects.length) (.slice (some ⟨e1,0,none⟩) K.grants.length K.grants.length) (.slice (some ⟨e2,0,none⟩) K.ledgers.length K.ledgers.length) (.slice (some ⟨e3,0,none⟩) K.purses.length K.purses.length)):=by show bm _ _ _ _ _ _ _ _ _;rw[dX];exact bm.bV w _ _ _ _ _ _ _ _ _ rfl
 go_enter Tryz.func70,Tryz.ntmps70
 go_upto_region 1 with fail
 rw[← dX];clear dX;obtain⟨yz,y0,y1,y2,y3,y4,y5,y6⟩:=iC.out;go_wp2;go_loop [7] (fun i=>∃ q:Nat,q≤K.ledgers.length∧i=.int .i64 q∧q≤il K.ledgers tm rs) (fun i=>K.ledgers.length - (intOf i).toNat)
 case atStart=>exact⟨0,nz,rfl,nz⟩
 case round=>
  obtain⟨q,hq,rfl,hn⟩:=hrel;have HN:=hid hn;clear hn;by_cases aw:q<K.ledgers.length
  ·obtain⟨x,hx⟩:∃ x,x=K.ledgers.getD q Lg.none:=⟨_,rfl⟩
   have bC:=(HH.out.later ea.out).l;have hB:=bC.lt;have eb:=bC.at_ q aw;rw[← hx]at eb;obtain⟨c0,c1,c2,c3,_⟩:=eb;have HM:Hid (kP tm rs x=false→q+1≤il K.ledgers tm rs):=fun hp=>vo (d:=Lg.none) aw HN.out (by rw[← hx];exact hp);have HT:Hid (kP tm rs x=true→R=(q:Int)):=fun hp=>by
    have e:il K.ledgers tm rs=q:=Al (d:=Lg.none) aw HN.out (by rw[← hx];exact hp);rw[HR.out,e];unfold eg;rw[if_pos aw]
   clear hx bC;cases h0:(x.team.toList==tm.toList)
   ·have HE:=hid (HM.out (by unfold kP;simp[h0]));go_wp2;go_round
    case rel=>exact⟨q+1,by omega,by go_num,HE.out⟩
    case measure=>simp[intOf];omega
   ·skip
    cases h1:(x.res.toList==rs.toList)
    ·have HE:=hid (HM.out (by unfold kP;simp[h0,h1]));go_wp2;go_round
     case rel=>exact⟨q+1,by omega,by go_num,HE.out⟩
     case measure=>simp[intOf];omega
    ·have HE:=hid (HT.out (by unfold kP;simp only[h0,h1];rfl));go_wp2;go_ret;exact⟨Pl.aS HE.out.symm,ea.out⟩
  ·have HE:Hid (R= -1):=by show R= -1;rw[HR.out];unfold eg;rw[if_neg (by have:=HN.out;omega)]
   go_wp2;go_ret;exact⟨Pl.aS HE.out.symm,ea.out⟩
def gP (l:List Ps) (tm rs:ByteArray):Nat→Int
 |0=>0
 |k+1=>if (((l.getD k Ps.none).team.toList==tm.toList)&&((l.getD k Ps.none).res.toList==rs.toList))=true then wrap64 (gP l tm rs k+(l.getD k Ps.none).amount) else gP l tm rs k
def vk (l:List Ps) (tm rs:ByteArray):Int:=gP l tm rs l.length
theorem yB (K:Bk) (e0 e1 e2 e3:Nat) (tm rs:ByteArray) (w:World) (h:gp w e0 e1 e2 e3 K):
  Calls Tryz.prog 73 #[.agg #[.int .i64 K.now,.int .i64 K.tick,.int .i64 K.given,.slice (some ⟨e0,0,none⟩) K.objects.length K.objects.length,.slice (some ⟨e1,0,none⟩) K.grants.length K.grants.length,.slice (some ⟨e2,0,none⟩) K.ledgers.length K.ledgers.length,.slice (some ⟨e3,0,none⟩) K.purses.length K.purses.length],.string tm,.string rs] w fun e w'=>e=.returned (.int .i64 (vk K.purses tm rs))∧Bel w w':=by
 have HH:=hid h;have hl:=h.p.len;clear h;obtain⟨wa,dX⟩:∃ wa,wa=w.alloc (.cells #[.int .i64 K.now,.int .i64 K.tick,.int .i64 K.given,.slice (some ⟨e0,0,none⟩) K.objects.length K.objects.length,.slice (some ⟨e1,0,none⟩) K.grants.length K.grants.length,.slice (some ⟨e2,0,none⟩) K.ledgers.length K.ledgers.length,.slice (some ⟨e3,0,none⟩) K.purses.length K.purses.length] 47):=⟨_,rfl⟩
 have ea:Hid (Bel w wa):=by show Below _ _ _;rw[dX];exact ab br _
 have iC:Hid (bm wa w.heap.size (.int .i64 K.now) (.int .i64 K.tick) (.int .i64 K.given) (.slice (some ⟨e0,0,none⟩) K.objects.length K.objects.length) (.slice (some ⟨e1,0,none⟩) K.grants.length K.grants.length) (.slice (some ⟨e2,0,none⟩) K.ledgers.length K.ledgers.length) (.slice (some ⟨e3,0,none⟩) K.purses.length K.purses.length)):=by show bm _ _ _ _ _ _ _ _ _;rw[dX];exact bm.bV w _ _ _ _ _ _ _ _ _ rfl
 go_enter Tryz.func73,Tryz.ntmps73
 go_upto_region 1 with fail
 rw[← dX];clear dX;obtain⟨yz,y0,y1,y2,y3,y4,y5,y6⟩:=iC.out;go_wp2;go_loop [7,8] (fun s i=>∃ q:Nat,q≤K.purses.length∧i=.int .i64 q∧s=.int .i64 (gP K.purses tm rs q)) (fun _ i=>K.purses.length - (intOf i).toNat)
 case atStart=>exact⟨0,nz,rfl,rfl⟩
 case round=>
  obtain⟨q,hq,rfl,rfl⟩:=hrel;obtain⟨sm,dO⟩:∃ sm,sm=gP K.purses tm rs q:=⟨_,rfl⟩
  have nb:=hid dO;rw[← dO];clear dO;by_cases aw:q<K.purses.length
  ·obtain⟨x,hx⟩:∃ x,x=K.purses.getD q Ps.none:=⟨_,rfl⟩
   have bC:=(HH.out.later ea.out).p;have hB:=bC.lt;have eb:=bC.at_ q aw;rw[← hx]at eb;obtain⟨c0,c1,c2,c3,c4,_⟩:=eb;have gS:Hid (gP K.purses tm rs (q+1)=if ((x.team.toList==tm.toList)&&(x.res.toList==rs.toList))=true then wrap64 (sm+x.amount) else sm):=by
    show gP _ _ _ _=_;rw[nb.out,hx];rfl
   clear hx bC;cases h0:(x.team.toList==tm.toList)
   ·have HE:Hid (gP K.purses tm rs (q+1)=sm):=by show gP _ _ _ _=_;rw[gS.out,h0];rfl
    go_wp2;go_round
    case rel=>exact⟨q+1,by omega,by go_num,by rw[HE.out]⟩
    case measure=>simp[intOf];omega
   ·cases h1:(x.res.toList==rs.toList)
    ·have HE:Hid (gP K.purses tm rs (q+1)=sm):=by show gP _ _ _ _=_;rw[gS.out,h0,h1];rfl
     go_wp2;go_round
     case rel=>exact⟨q+1,by omega,by go_num,by rw[HE.out]⟩
     case measure=>simp[intOf];omega
    ·have HE:Hid (gP K.purses tm rs (q+1)=wrap64 (sm+x.amount)):=by show gP _ _ _ _=_;rw[gS.out,h0,h1];rfl
     go_wp2;go_round
     case rel=>exact⟨q+1,by omega,by go_num,by rw[HE.out]⟩
     case measure=>simp[intOf];omega
  ·obtain rfl:q=K.purses.length:=by omega
   go_wp2;go_ret;exact⟨Pl.aS (by rw[nb.out];rfl),ea.out⟩
def dZ (us vs:List ByteArray):Bool:=decide (us.length=vs.length)&&aD (fun i=>(us.getD i ByteArray.empty).toList==(vs.getD i ByteArray.empty).toList) vs.length
theorem wZ (g c b d:Nat) (us vs:List ByteArray) (w:World) (hu:us.length≤1048576) (hv:vs.length≤1048576) (hg:g<w.heap.size) (hb:b<w.heap.size) (cu:∀ i,i<us.length→w.cell? ⟨g,i,none⟩=some (.string (us.getD i ByteArray.empty))) (cv:∀ i,i<vs.length→w.cell? ⟨b,i,none⟩=some (.string (vs.getD i ByteArray.empty))):
  Calls Tryz.prog 64 #[.slice (some ⟨g,0,none⟩) us.length c,.slice (some ⟨b,0,none⟩) vs.length d] w fun e w'=>e=.returned (.bool (dZ us vs))∧Bel w w':=by
 obtain⟨R,hR⟩:∃ R,R=dZ us vs:=⟨_,rfl⟩
 have HR:=hid hR;rw[← hR];clear hR;go_enter Tryz.func64,Tryz.ntmps64
 by_cases fa:us.length=vs.length
 ·obtain⟨n,hn⟩:∃ n,n=vs.length:=⟨_,rfl⟩
  have Iy:Hid (R=aD (fun i=>(us.getD i ByteArray.empty).toList==(vs.getD i ByteArray.empty).toList) n):=by show R=_;rw[HR.out,hn];unfold dZ;simp[fa]
  rw[fa]at cu hu ⊢;rw[← hn]at cu cv hu hv ⊢;clear fa hn HR;go_wp2;go_loopw [5] (fun i wr=>∃ q:Nat,q≤n∧i=.int .i64 q∧aD (fun i=>(us.getD i ByteArray.empty).toList==(vs.getD i ByteArray.empty).toList) q=true∧Bel w wr) (fun i _=>n - (intOf i).toNat)
  case atStart=>exact⟨0,nz,rfl,rfl,br⟩
  case round=>
   obtain⟨q,hq,rfl,ha,hW⟩:=hrel;have HA:=hid ha;clear ha;by_cases aw:q<n
   ·have k1:=(hW.cell (p:=⟨g,q,none⟩) hg).trans (cu q aw);have k2:=(hW.cell (p:=⟨b,q,none⟩) hb).trans (cv q aw);obtain⟨x,hx⟩:∃ x,x=us.getD q ByteArray.empty:=⟨_,rfl⟩
    obtain⟨y,hy⟩:∃ y,y=vs.getD q ByteArray.empty:=⟨_,rfl⟩
    rw[← hx]at k1;rw[← hy]at k2;have HS:Hid ((fun i=>(us.getD i ByteArray.empty).toList==(vs.getD i ByteArray.empty).toList) q=(x.toList==y.toList)):=by show _=_;rw[hx,hy]
    have xQ:=lo hg hW.size;have AQ:=lo hb hW.size;have qX:=hid hW;clear hx hy hW cu cv;cases hh:(x.toList==y.toList)
    ·have HE:Hid (R=false):=by show R=false;rw[Iy.out];exact ba aw (HS.out.trans hh)
     go_wp2_with fail
     go_quiet (fail)
     go_wp2;go_ret;exact⟨Pl.ae HE.out.symm,al qX.out _⟩
    ·have HE:=hid (aU HA.out (HS.out.trans hh));go_wp2_with fail
     go_quiet (fail)
     go_wp2;go_roundw
     case rel=>exact⟨q+1,by omega,by go_num,HE.out,al qX.out _⟩
     case measure=>simp[intOf];omega
   ·obtain rfl:q=n:=by omega
    go_wp2;go_ret;exact⟨Pl.ae (by rw[Iy.out,HA.out]),hW⟩
 ·have HE:Hid (R=false):=by show R=false;rw[HR.out];unfold dZ;simp[fa]
  go_wp2;go_ret;exact⟨Pl.ae HE.out.symm,br⟩
theorem xl (v:Option Addr) (d:Nat) (c:Nat) (vs:List ByteArray) (w:World) (hv:vs.length≤1048576):
  Calls Tryz.prog 64 #[.slice none 0 c,.slice v vs.length d] w fun e w'=>e=.returned (.bool (dZ [] vs))∧Bel w w':=by
 obtain⟨R,hR⟩:∃ R,R=dZ [] vs:=⟨_,rfl⟩
 have HR:=hid hR;rw[← hR];clear hR;go_enter Tryz.func64,Tryz.ntmps64
 by_cases fa:vs.length=0
 ·have HE:Hid (R=true):=by
   show R=true;rw[HR.out,List.length_eq_zero_iff.1 fa];rfl
  rw[fa];clear HR fa;go_wp2;go_loop [5] (fun i=>i=.int .i64 0) (fun i=>0)
  case atStart=>exact rfl
  case round=>
   obtain rfl:=hrel;go_wp2;go_ret;exact⟨Pl.ae HE.out.symm,br⟩
 ·have HE:Hid (R=false):=by show R=false;rw[HR.out];unfold dZ;rw[show decide (([]:List ByteArray).length=vs.length)=false from decide_eq_false (by simp;omega)];rfl
  have hp:0<vs.length:=by omega
  go_wp2;go_ret;exact⟨Pl.ae HE.out.symm,br⟩
theorem Di (a:Option Addr) (n c b d:Nat) (us vs:List ByteArray) (w:World) (hu:us.length≤1048576) (hv:vs.length≤1048576) (hn:n=us.length) (ha:TxG w a c us) (hb:b<w.heap.size) (cv:∀ i,i<vs.length→w.cell? ⟨b,i,none⟩=some (.string (vs.getD i ByteArray.empty))):
  Calls Tryz.prog 64 #[.slice a n c,.slice (some ⟨b,0,none⟩) vs.length d] w fun e w'=>e=.returned (.bool (dZ us vs))∧Bel w w':=by
 subst hn;rcases ha with⟨rfl,rfl,rfl⟩|⟨g,rfl,hg,cu⟩
 ·exact xl _ _ _ _ w hv
 ·exact wZ g c b d us vs w hu hv hg hb cu cv
theorem wD (g c b d:Nat) (us vs:List ByteArray) (w:World) (hu:us.length≤1048576) (hv:vs.length≤1048576) (hg:g<w.heap.size) (hb:b<w.heap.size) (cu:∀ i,i<us.length→w.cell? ⟨g,i,none⟩=some (.string (us.getD i ByteArray.empty))) (cv:∀ i,i<vs.length→w.cell? ⟨b,i,none⟩=some (.string (vs.getD i ByteArray.empty))):
  Calls Tryz.prog 140 #[.slice (some ⟨g,0,none⟩) us.length c,.slice (some ⟨b,0,none⟩) vs.length d] w fun e w'=>e=.returned (.bool (dZ us vs))∧Bel w w':=by
 obtain⟨R,hR⟩:∃ R,R=dZ us vs:=⟨_,rfl⟩
 have HR:=hid hR;rw[← hR];clear hR;go_enter Tryz.func140,Tryz.ntmps140
 by_cases fa:us.length=vs.length
 ·obtain⟨n,hn⟩:∃ n,n=vs.length:=⟨_,rfl⟩
  have Iy:Hid (R=aD (fun i=>(us.getD i ByteArray.empty).toList==(vs.getD i ByteArray.empty).toList) n):=by show R=_;rw[HR.out,hn];unfold dZ;simp[fa]
  rw[fa]at cu hu ⊢;rw[← hn]at cu cv hu hv ⊢;clear fa hn HR;go_wp2;go_loopw [13] (fun i wr=>∃ q:Nat,q≤n∧i=.int .i64 q∧aD (fun i=>(us.getD i ByteArray.empty).toList==(vs.getD i ByteArray.empty).toList) q=true∧Bel w wr) (fun i _=>n - (intOf i).toNat)
  case atStart=>exact⟨0,nz,rfl,rfl,br⟩
  case round=>
   obtain⟨q,hq,rfl,ha,hW⟩:=hrel;have HA:=hid ha;clear ha;by_cases aw:q<n
   ·have k1:=(hW.cell (p:=⟨g,q,none⟩) hg).trans (cu q aw);have k2:=(hW.cell (p:=⟨b,q,none⟩) hb).trans (cv q aw);obtain⟨x,hx⟩:∃ x,x=us.getD q ByteArray.empty:=⟨_,rfl⟩
    obtain⟨y,hy⟩:∃ y,y=vs.getD q ByteArray.empty:=⟨_,rfl⟩
    rw[← hx]at k1;rw[← hy]at k2;have HS:Hid ((fun i=>(us.getD i ByteArray.empty).toList==(vs.getD i ByteArray.empty).toList) q=(x.toList==y.toList)):=by show _=_;rw[hx,hy]
    have xQ:=lo hg hW.size;have AQ:=lo hb hW.size;have qX:=hid hW;clear hx hy hW cu cv;cases hh:(x.toList==y.toList)
    ·have HE:Hid (R=false):=by show R=false;rw[Iy.out];exact ba aw (HS.out.trans hh)
     go_wp2_with fail
     go_quiet (fail)
     go_wp2;go_ret;exact⟨Pl.ae HE.out.symm,al qX.out _⟩
    ·have HE:=hid (aU HA.out (HS.out.trans hh));go_wp2_with fail
     go_quiet (fail)
     go_wp2;go_roundw
     case rel=>exact⟨q+1,by omega,by go_num,HE.out,al qX.out _⟩
     case measure=>simp[intOf];omega
   ·obtain rfl:q=n:=by omega
    go_wp2;go_ret;exact⟨Pl.ae (by rw[Iy.out,HA.out]),hW⟩
 ·have HE:Hid (R=false):=by show R=false;rw[HR.out];unfold dZ;simp[fa]
  go_wp2;go_ret;exact⟨Pl.ae HE.out.symm,br⟩
theorem wY (v:Option Addr) (d:Nat) (c:Nat) (vs:List ByteArray) (w:World) (hv:vs.length≤1048576):
  Calls Tryz.prog 140 #[.slice none 0 c,.slice v vs.length d] w fun e w'=>e=.returned (.bool (dZ [] vs))∧Bel w w':=by
 obtain⟨R,hR⟩:∃ R,R=dZ [] vs:=⟨_,rfl⟩
 have HR:=hid hR;rw[← hR];clear hR;go_enter Tryz.func140,Tryz.ntmps140
 by_cases fa:vs.length=0
 ·have HE:Hid (R=true):=by
   show R=true;rw[HR.out,List.length_eq_zero_iff.1 fa];rfl
  rw[fa];clear HR fa;go_wp2;go_loop [13] (fun i=>i=.int .i64 0) (fun i=>0)
  case atStart=>exact rfl
  case round=>
   obtain rfl:=hrel;go_wp2;go_ret;exact⟨Pl.ae HE.out.symm,br⟩
 ·have HE:Hid (R=false):=by show R=false;rw[HR.out];unfold dZ;rw[show decide (([]:List ByteArray).length=vs.length)=false from decide_eq_false (by simp;omega)];rfl
  have hp:0<vs.length:=by omega
  go_wp2;go_ret;exact⟨Pl.ae HE.out.symm,br⟩
theorem G6 (a:Option Addr) (n c b d:Nat) (us vs:List ByteArray) (w:World) (hu:us.length≤1048576) (hv:vs.length≤1048576) (hn:n=us.length) (ha:TxG w a c us) (hb:b<w.heap.size) (cv:∀ i,i<vs.length→w.cell? ⟨b,i,none⟩=some (.string (vs.getD i ByteArray.empty))):
  Calls Tryz.prog 140 #[.slice a n c,.slice (some ⟨b,0,none⟩) vs.length d] w fun e w'=>e=.returned (.bool (dZ us vs))∧Bel w w':=by
 subst hn;rcases ha with⟨rfl,rfl,rfl⟩|⟨g,rfl,hg,cu⟩
 ·exact wY _ _ _ _ w hv
 ·exact wD g c b d us vs w hu hv hg hb cu cv
structure la {α:Type} (c:α→α→Int):Prop where
 z:∀ x y,c x y=0↔x=y
 t:∀ x y u,c x y<0→c y u<0→c x u<0
 f:∀ x y,0<c x y→c y x<0
theorem rI:∀ x y u:List UInt8,Op.bytesLess x y=true→Op.bytesLess y u=true→Op.bytesLess x u=true
 |[],[],_,h,_=>by simp[Op.bytesLess]at h
 |_::_,[],_,h,_=>by simp[Op.bytesLess]at h
 |[],_::_,[],_,h=>by simp[Op.bytesLess]at h
 |[],_::_,_::_,_,_=>rfl
 |_::_,_::_,[],_,h=>by simp[Op.bytesLess]at h
 |a::x,b::y,c::u,h1,h2=>by
  simp only[Op.bytesLess,Bool.or_eq_true,Bool.and_eq_true,decide_eq_true_eq,beq_iff_eq]at h1 h2 ⊢;rcases h1 with h1|⟨h1,Gp⟩<;>rcases h2 with h2|⟨h2,h2'⟩
  ·exact Or.inl (UInt8.lt_trans h1 h2)
  ·subst h2;exact Or.inl h1
  ·subst h1;exact Or.inl h2
  ·subst h1 h2;exact Or.inr ⟨rfl,rI x y u Gp h2'⟩
theorem sr:∀ x y:List UInt8,Op.bytesLess x y=false→x≠y→Op.bytesLess y x=true
 |[],[],_,h=>absurd rfl h
 |_::_,[],_,_=>rfl
 |[],_::_,h,_=>by simp[Op.bytesLess]at h
 |a::x,b::y,h,fa=>by
  simp only[Op.bytesLess,Bool.or_eq_false_iff,Bool.and_eq_false_iff,decide_eq_false_iff_not,beq_eq_false_iff_ne]at h;simp only[Op.bytesLess,Bool.or_eq_true,Bool.and_eq_true,decide_eq_true_eq,beq_iff_eq];by_cases e:a=b
  ·subst e;refine Or.inr ⟨rfl,sr x y ?_ ?_⟩
   ·rcases h.2 with h'|h'
    ·exact absurd rfl h'
    ·exact h'
   ·intro e;subst e;exact fa rfl
  ·refine Or.inl ?_;have h1:=h.1;rcases Nat.lt_trichotomy a.toNat b.toNat with q|q|q
   ·exact absurd (UInt8.lt_iff_toNat_lt.2 q) h1
   ·exact absurd (UInt8.toNat_inj.1 q) e
   ·exact UInt8.lt_iff_toNat_lt.2 q
def kc (a b:List UInt8):Int:=if Op.bytesLess a b then -1 else if a==b then 0 else 1
theorem nN (a b:List UInt8):kc a b<0↔Op.bytesLess a b=true:=by
 unfold kc;split
 ·simp_all
 ·split<;>simp_all
theorem eZ:la kc where
 z x y:=by
  unfold kc;constructor
  ·intro h;split at h
   ·cases h
   ·split at h
    ·rename_i e;simpa using e
    ·cases h
  ·intro e;subst e;rw[iP];simp
 t x y u h1 h2:=(nN _ _).2 (rI x y u ((nN _ _).1 h1) ((nN _ _).1 h2))
 f x y h:=by
  refine(nN _ _).2 (sr x y ?_ ?_)
  ·cases e:Op.bytesLess x y
   ·rfl
   ·have:=(nN x y).2 e;omega
  ·intro e;subst e;unfold kc at h;rw[iP]at h;simp at h
def lex {α β:Type} (c:α→α→Int) (d:β→β→Int) (x y:α×β):Int:=if c x.1 y.1=0 then d x.2 y.2 else c x.1 y.1
theorem gX {α β:Type} {c:α→α→Int} {d:β→β→Int} (hc:la c) (hd:la d):la (lex c d) where
 z x y:=by
  obtain⟨a,b⟩:=x;obtain⟨a',b'⟩:=y;unfold lex;simp only[Prod.mk.injEq];split
  ·rename_i h
   have:=(hc.z _ _).1 h;rw[hd.z];exact⟨fun h=>⟨this,h⟩,fun h=>h.2⟩
  ·rename_i h
   exact⟨fun e=>absurd e h,fun e=>absurd ((hc.z _ _).2 e.1) h⟩
 t x y u h1 h2:=by
  unfold lex at h1 h2 ⊢;split at h1
  ·rename_i e1
   have e1':=(hc.z _ _).1 e1;split at h2
   ·rename_i e2
    have e2':=(hc.z _ _).1 e2;rw[if_pos ((hc.z _ _).2 (e1'.trans e2'))];exact hd.t _ _ _ h1 h2
   ·rename_i e2
    rw[e1',if_neg e2];exact h2
  ·rename_i e1
   split at h2
   ·rename_i e2
    have e2':=(hc.z _ _).1 e2;rw[← e2',if_neg e1];exact h1
   ·have:=hc.t _ _ _ h1 h2;rw[if_neg (by omega)];exact this
 f x y h:=by
  unfold lex at h ⊢;split at h
  ·rename_i e
   have e':=(hc.z _ _).1 e;rw[if_pos ((hc.z _ _).2 e'.symm)];exact hd.f _ _ h
  ·have:=hc.f _ _ h;rw[if_neg (by omega)];exact this
theorem gA (a b c d:ByteArray):two a b c d=lex kc kc (a.toList,b.toList) (c.toList,d.toList):=rfl
theorem ue {α:Type} {c:α→α→Int} (hc:la c) {g:Nat→α} {n:Nat} (h:∀ i,i<n - 1→c (g i) (g (i+1))<0):∀ i j,i<j→j<n→c (g i) (g j)<0:=by
 intro i j hij;induction j with
 |zero=>omega
 |succ j ih=>
  intro hj;by_cases e:i=j
  ·subst e;exact h i (by omega)
  ·exact hc.t _ _ _ (ih (by omega) (by omega)) (h j (by omega))
theorem zX {α:Type} {c:α→α→Int} (hc:la c) {g:Nat→α} {n:Nat} (h:∀ i,i<n - 1→c (g i) (g (i+1))<0) {t:α} {p:Nat} (hp:0≤c (g p) t):∀ i,p≤i→i<n→0≤c (g i) t:=by
 intro i hi hn;by_cases e:p=i
 ·subst e;exact hp
 ·have h1:=ue hc h p i (by omega) hn;rcases Int.lt_trichotomy (c (g p) t) 0 with q|q|q
  ·omega
  ·have:=(hc.z _ _).1 q;rw[this]at h1;rcases Int.lt_trichotomy (c (g i) t) 0 with r|r|r
   ·have:=hc.t _ _ _ h1 r;have:=(hc.z t t).2 rfl;omega
   ·omega
   ·omega
  ·have h2:=hc.f _ _ q;have h3:=hc.t _ _ _ h2 h1;rcases Int.lt_trichotomy (c (g i) t) 0 with r|r|r
   ·have:=hc.t _ _ _ h3 r;have:=(hc.z t t).2 rfl;omega
   ·omega
   ·omega
theorem vE {α:Type} {c:α→α→Int} (hc:la c) {g:Nat→α} {n:Nat} (h:∀ i,i<n - 1→c (g i) (g (i+1))<0) {t:α} {p i:Nat} (hp:∀ j,j<p→c (g j) t<0) (Lm:p<n→0≤c (g p) t) (hi:i<n) (he:g i=t):p=i:=by
 have hz:c (g i) t=0:=(hc.z _ _).2 he;rcases Nat.lt_trichotomy p i with q|q|q
 ·have h1:=ue hc h p i q hi;rw[he]at h1;have:=Lm (by omega);omega
 ·exact q
 ·have:=hp i q;omega
def dK (l:List Ob) (kd nm:ByteArray):Nat:=l.findIdx fun x=> !decide (two x.kind x.name kd nm<0)
theorem pO (l:List Ob):jh l=true↔∀ i,i<l.length - 1→lex kc kc ((fun i=>((l.getD i Ob.none).kind.toList,(l.getD i Ob.none).name.toList)) i) ((fun i=>((l.getD i Ob.none).kind.toList,(l.getD i Ob.none).name.toList)) (i+1))<0:=by
 unfold jh;rw[hN];refine forall_congr' fun i=> ?_;simp only[decide_eq_true_eq];exact Iff.rfl
theorem oz (l:List Ob) (kd nm:ByteArray):dK l kd nm≤l.length:=List.findIdx_le_length
theorem oL (l:List Ob) (kd nm:ByteArray):∀ i,i<dK l kd nm→two (l.getD i Ob.none).kind (l.getD i Ob.none).name kd nm<0:=by
 intro i hi;have hl:=lo hi (oz l kd nm);have:=List.not_of_lt_findIdx hi;have e:l.getD i Ob.none=l[i]:=by simp[hl]
 rw[e];simpa using this
theorem oC (l:List Ob) (kd nm:ByteArray) (h:dK l kd nm<l.length):0≤two (l.getD (dK l kd nm) Ob.none).kind (l.getD (dK l kd nm) Ob.none).name kd nm:=by
 have:=List.findIdx_getElem (w:=h);have e:l.getD (dK l kd nm) Ob.none=l[dK l kd nm]:=by simp[h]
 rw[e];simp only[Bool.not_eq_true',decide_eq_false_iff_not,Int.not_lt]at this;exact this
theorem tD {l:List Ob} (h:jh l=true) (kd nm:ByteArray):∀ i,dK l kd nm≤i→i<l.length→0≤two (l.getD i Ob.none).kind (l.getD i Ob.none).name kd nm:=by
 intro i hi hl;have:=zX (gX eZ eZ) ((pO l).1 h) (t:=(kd.toList,nm.toList)) (p:=dK l kd nm) (by have:=oC l kd nm (by omega);rw[gA]at this;exact this) i hi hl;rw[gA];exact this
theorem pK (kd nm:ByteArray) (x:Ob):lF kd nm x=true↔(x.kind.toList,x.name.toList)=(kd.toList,nm.toList):=by
 unfold lF;simp[Bool.and_eq_true]
theorem yt (kd nm:ByteArray) (x:Ob):two x.kind x.name kd nm=0↔lF kd nm x=true:=by
 rw[pK,gA];exact(gX eZ eZ).z _ _
theorem Cm {l:List Ob} (h:jh l=true) (kd nm:ByteArray):(decide (dK l kd nm<l.length)&&decide (two (l.getD (dK l kd nm) Ob.none).kind (l.getD (dK l kd nm) Ob.none).name kd nm=0))=decide (kF l kd nm<l.length):=by
 rw[Bool.eq_iff_iff];simp only[Bool.and_eq_true,decide_eq_true_eq];constructor
 ·rintro⟨h1,h2⟩;have h3:=(yt kd nm _).1 h2;refine Nat.lt_of_le_of_lt (Nat.le_of_not_lt fun hh=> ?_) h1;have:=List.not_of_lt_findIdx hh;have e:l.getD (dK l kd nm) Ob.none=l[dK l kd nm]:=by simp[h1]
  rw[e]at h3;rw[this]at h3;cases h3
 ·intro h1;have h3:=List.findIdx_getElem (w:=h1);have e:l.getD (kF l kd nm) Ob.none=l[kF l kd nm]:=by simp[h1]
  have hk:=(pK kd nm _).1 h3;have hp:dK l kd nm=kF l kd nm:=vE (gX eZ eZ) ((pO l).1 h) (t:=(kd.toList,nm.toList)) (fun j hj=>by have:=oL l kd nm j hj;rw[gA]at this;exact this) (fun hh=>by have:=oC l kd nm hh;rw[gA]at this;exact this) h1 (by show _=_;rw[e];exact hk);rw[hp];refine⟨h1,(yt kd nm _).2 ?_⟩;rw[e];exact h3
def dE (l:List Lg) (tm rs:ByteArray):Nat:=l.findIdx fun x=> !decide (two x.team x.res tm rs<0)
theorem mc (l:List Lg):gj l=true↔∀ i,i<l.length - 1→lex kc kc ((fun i=>((l.getD i Lg.none).team.toList,(l.getD i Lg.none).res.toList)) i) ((fun i=>((l.getD i Lg.none).team.toList,(l.getD i Lg.none).res.toList)) (i+1))<0:=by
 unfold gj;rw[hN];refine forall_congr' fun i=> ?_;simp only[decide_eq_true_eq];exact Iff.rfl
theorem nP (l:List Lg) (tm rs:ByteArray):dE l tm rs≤l.length:=List.findIdx_le_length
theorem oh (l:List Lg) (tm rs:ByteArray):∀ i,i<dE l tm rs→two (l.getD i Lg.none).team (l.getD i Lg.none).res tm rs<0:=by
 intro i hi;have hl:=lo hi (nP l tm rs);have:=List.not_of_lt_findIdx hi;have e:l.getD i Lg.none=l[i]:=by simp[hl]
 rw[e];simpa using this
theorem n9 (l:List Lg) (tm rs:ByteArray) (h:dE l tm rs<l.length):0≤two (l.getD (dE l tm rs) Lg.none).team (l.getD (dE l tm rs) Lg.none).res tm rs:=by
 have:=List.findIdx_getElem (w:=h);have e:l.getD (dE l tm rs) Lg.none=l[dE l tm rs]:=by simp[h]
 rw[e];simp only[Bool.not_eq_true',decide_eq_false_iff_not,Int.not_lt]at this;exact this
theorem uf {l:List Lg} (h:gj l=true) (tm rs:ByteArray):∀ i,dE l tm rs≤i→i<l.length→0≤two (l.getD i Lg.none).team (l.getD i Lg.none).res tm rs:=by
 intro i hi hl;have:=zX (gX eZ eZ) ((mc l).1 h) (t:=(tm.toList,rs.toList)) (p:=dE l tm rs) (by have:=n9 l tm rs (by omega);rw[gA]at this;exact this) i hi hl;rw[gA];exact this
theorem l6 (tm rs:ByteArray) (x:Lg):kP tm rs x=true↔(x.team.toList,x.res.toList)=(tm.toList,rs.toList):=by
 unfold kP;simp[Bool.and_eq_true]
theorem zR (tm rs:ByteArray) (x:Lg):two x.team x.res tm rs=0↔kP tm rs x=true:=by
 rw[l6,gA];exact(gX eZ eZ).z _ _
theorem BE {l:List Lg} (h:gj l=true) (tm rs:ByteArray):(decide (dE l tm rs<l.length)&&decide (two (l.getD (dE l tm rs) Lg.none).team (l.getD (dE l tm rs) Lg.none).res tm rs=0))=decide (il l tm rs<l.length):=by
 rw[Bool.eq_iff_iff];simp only[Bool.and_eq_true,decide_eq_true_eq];constructor
 ·rintro⟨h1,h2⟩;have h3:=(zR tm rs _).1 h2;refine Nat.lt_of_le_of_lt (Nat.le_of_not_lt fun hh=> ?_) h1;have:=List.not_of_lt_findIdx hh;have e:l.getD (dE l tm rs) Lg.none=l[dE l tm rs]:=by simp[h1]
  rw[e]at h3;rw[this]at h3;cases h3
 ·intro h1;have h3:=List.findIdx_getElem (w:=h1);have e:l.getD (il l tm rs) Lg.none=l[il l tm rs]:=by simp[h1]
  have hk:=(l6 tm rs _).1 h3;have hp:dE l tm rs=il l tm rs:=vE (gX eZ eZ) ((mc l).1 h) (t:=(tm.toList,rs.toList)) (fun j hj=>by have:=oh l tm rs j hj;rw[gA]at this;exact this) (fun hh=>by have:=n9 l tm rs hh;rw[gA]at this;exact this) h1 (by show _=_;rw[e];exact hk);rw[hp];refine⟨h1,(zR tm rs _).2 ?_⟩;rw[e];exact h3
theorem yZ (B:Nat) (ts:List Tm) (w:World) (h:eS w B ts):
  Calls Tryz.prog 82 #[.slice (some ⟨B,0,none⟩) ts.length ts.length] w fun e w'=>e=.returned (.bool (dG ts))∧Bel w w':=by
 have HS:=hid h;have hl:=h.len;clear h;by_cases jr:ts.length≤12
 case neg=>
  have HR:Hid (dG ts=false):=by show dG ts=_;simp[dG,jr]
  go_enter Tryz.func82,Tryz.ntmps82
  go_wp2;go_ret;exact⟨Pl.ae HR.out.symm,br⟩
 obtain⟨R,hR⟩:∃ R,R=dG ts:=⟨_,rfl⟩
 have HR:=hid hR;rw[← hR];clear hR;go_enter Tryz.func82,Tryz.ntmps82
 go_wp2;go_loopw [10] (fun i wr=>∃ k:Nat,k≤ts.length∧i=.int .i64 k∧eK ts k=true∧Bel w wr) (fun i _=>ts.length - (intOf i).toNat)
 case atStart=>exact⟨0,nz,rfl,rfl,br⟩
 case round=>
  obtain⟨k,hk,rfl,av,hW⟩:=hrel;obtain⟨wo,rfl⟩:∃ wo:World,wo=wr:=⟨_,rfl⟩
  have HA:=hid av;clear av;by_cases aw:k<ts.length
  ·obtain⟨t,ht⟩:∃ t,t=ts.getD k Tm.none:=⟨_,rfl⟩
   have hc:=(HS.out.later hW).at_ k aw;rw[← ht]at hc;obtain⟨c0,c1,eQ⟩:=hc;have HN:=hid eQ;have cJ:Bel wo (wo.alloc (.cells #[.string t.nm,.string t.ov] 138)):=ab br _;have HX:Hid (∀ W,Bel wo W→eS W B ts):=fun W sT=>(HS.out.later hW).later sT;have HF:Hid (k8 ts k=false→R=false):=fun hf=>by rw[HR.out];exact kO aw hf
   have hp:∃ P:Bool,P=(decide (k=0)||Pl.less (ts.getD (k - 1) Tm.none).nm t.nm)∧((k=0∧P=true)∨∃ (m:Nat) (p:ByteArray),k=m+1∧wo.cell? ⟨B,m*2,none⟩=some (.string p)∧Op.bytesLess p.toList t.nm.toList=P):=by
    refine⟨_,rfl, ?_⟩;by_cases h0:k=0
    ·exact Or.inl ⟨h0,by simp[h0]⟩
    ·refine Or.inr ⟨k - 1,(ts.getD (k - 1) Tm.none).nm,by omega,((HS.out.later hW).at_ (k - 1) (by omega)).c0,by simp[h0,Pl.less]⟩
   obtain⟨P,hP,A3⟩:=hp;have HT:=hid (pD ht P hP);clear hP ht eQ;rcases A3 with⟨rfl,rfl⟩|⟨m,p,rfl,mx,hq⟩
   ·cases hn:Pl.aq t.nm
    ·have HE:=hid (HF.out (by rw[HT.out,hn];rfl));go_wp2_with fail
     go_quiet ((go_at_call 89;exact Calls.quiet_of_same (eM _ _ HN.out.1)))
     go_wp2;go_ret;exact⟨Pl.ae HE.out.symm,al (aa hW cJ) _⟩
    ·cases he:t.ov.toList.isEmpty
     ·go_wp2_with fail
      go_quiet ((go_at_call 89;exact Calls.quiet_of_same (eM _ _ HN.out.1)))
      go_wp2_with fail
      refine(jA B ts t.ov _ (HX.out _ (al cJ _))).mono ?_;rintro e w4 ⟨rfl,cq⟩;have aY:Hid (Bel wo w4):=aa (al cJ _) cq;have k0:w4.cell? ⟨wo.heap.size,0,none⟩=some (.string t.nm):=(cq.cell (p:=⟨wo.heap.size,0,none⟩) (by show wo.heap.size<(wo.alloc (.cells #[.string t.nm,.string t.ov] 138)).heap.size;simp)).trans (by show (wo.alloc (.cells #[.string t.nm,.string t.ov] 138)).cell? _=_;simp);clear cq;cases hi:bA ts t.ov
      ·have HE:=hid (HF.out (by rw[HT.out,he,hi];simp));go_wp2;go_ret;exact⟨Pl.ae HE.out.symm,aa hW aY.out⟩
      ·have HK:Hid (high ts 5 t.nm=true→eK ts (0+1)=true):=fun hh=>ef HA.out (by rw[HT.out,hn,hh,he,hi];simp);have HJ:Hid (high ts 5 t.nm=false→R=false):=fun hh=>HF.out (by rw[HT.out,hh];simp);clear hn  hi he;go_wp2_with fail
       refine(jv B ts t.nm _ (HX.out _ aY.out)).mono ?_;rintro e w5 ⟨⟨r,rfl,r0,r5,hr⟩,gv⟩;have uQ:=hid (aa (aa hW aY.out) gv);have fA:=hid hr;clear gv hr aY;by_cases hr4:4<r
       ·have HE:=hid (HJ.out (by have:=fA.out;rw[decide_eq_true hr4]at this;simpa using this.symm));go_wp2;go_ret;exact⟨Pl.ae HE.out.symm,uQ.out⟩
       ·have HE:=hid (HK.out (by have:=fA.out;rw[decide_eq_false hr4]at this;simpa using this.symm));go_wp2;go_roundw
        case rel=>first|exact⟨0+1,by omega,by go_num,HE.out,uQ.out⟩|((repeat apply Exists.intro);exact⟨⟨0+1,by omega,by go_num,HE.out,uQ.out⟩,rfl⟩)
        case measure=>simp[intOf];omega
     ·have HK:Hid (high ts 5 t.nm=true→eK ts (0+1)=true):=fun hh=>ef HA.out (by rw[HT.out,hn,hh,he];simp);have HJ:Hid (high ts 5 t.nm=false→R=false):=fun hh=>HF.out (by rw[HT.out,hh];simp);go_wp2_with fail
      go_quiet ((go_at_call 89;exact Calls.quiet_of_same (eM _ _ HN.out.1)))
      have aY:=hid cJ;go_wp2_with fail
      clear hn  he;refine(jv B ts t.nm _ (HX.out _ (al cJ _))).mono ?_;rintro e w5 ⟨⟨r,rfl,r0,r5,hr⟩,gv⟩;have uQ:Hid (Bel w w5):=aa (aa hW (al aY.out _)) gv;have fA:=hid hr;clear gv hr aY;by_cases hr4:4<r
      ·have HE:=hid (HJ.out (by have:=fA.out;rw[decide_eq_true hr4]at this;simpa using this.symm));go_wp2;go_ret;exact⟨Pl.ae HE.out.symm,uQ.out⟩
      ·have HE:=hid (HK.out (by have:=fA.out;rw[decide_eq_false hr4]at this;simpa using this.symm));go_wp2;go_roundw
       case rel=>first|exact⟨0+1,by omega,by go_num,HE.out,uQ.out⟩|((repeat apply Exists.intro);exact⟨⟨0+1,by omega,by go_num,HE.out,uQ.out⟩,rfl⟩)
       case measure=>simp[intOf];omega
   ·have FW:=lo HS.out.lt hW.size;have DM:decide ((m:Int)+1<(ts.length:Int))=true:=by simp;omega
    cases hn:Pl.aq t.nm
    ·have HE:=hid (HF.out (by rw[HT.out,hn];rfl));go_wp2_with fail
     go_quiet ((go_at_call 89;exact Calls.quiet_of_same (eM _ _ HN.out.1)))
     go_wp2;go_ret;exact⟨Pl.ae HE.out.symm,al (aa hW cJ) _⟩
    ·cases P
     ·have HE:=hid (HF.out (by rw[HT.out];simp));go_wp2_with fail
      go_quiet ((go_at_call 89;exact Calls.quiet_of_same (eM _ _ HN.out.1)))
      go_wp2;go_ret;exact⟨Pl.ae HE.out.symm,al (aa hW cJ) _⟩
     ·cases he:t.ov.toList.isEmpty
      ·go_wp2_with fail
       go_quiet ((go_at_call 89;exact Calls.quiet_of_same (eM _ _ HN.out.1)))
       go_wp2_with fail
       refine(jA B ts t.ov _ (HX.out _ (al cJ _))).mono ?_;rintro e w4 ⟨rfl,cq⟩;have aY:Hid (Bel wo w4):=aa (al cJ _) cq;have k0:w4.cell? ⟨wo.heap.size,0,none⟩=some (.string t.nm):=(cq.cell (p:=⟨wo.heap.size,0,none⟩) (by show wo.heap.size<(wo.alloc (.cells #[.string t.nm,.string t.ov] 138)).heap.size;simp)).trans (by show (wo.alloc (.cells #[.string t.nm,.string t.ov] 138)).cell? _=_;simp);clear cq;cases hi:bA ts t.ov
       ·have HE:=hid (HF.out (by rw[HT.out,he,hi];simp));go_wp2;go_ret;exact⟨Pl.ae HE.out.symm,aa hW aY.out⟩
       ·have HK:Hid (high ts 5 t.nm=true→eK ts ((m+1)+1)=true):=fun hh=>ef HA.out (by rw[HT.out,hn,hh,he,hi];simp);have HJ:Hid (high ts 5 t.nm=false→R=false):=fun hh=>HF.out (by rw[HT.out,hh];simp);clear hn mx hq hi he;go_wp2_with fail
        refine(jv B ts t.nm _ (HX.out _ aY.out)).mono ?_;rintro e w5 ⟨⟨r,rfl,r0,r5,hr⟩,gv⟩;have uQ:=hid (aa (aa hW aY.out) gv);have fA:=hid hr;clear gv hr aY;by_cases hr4:4<r
        ·have HE:=hid (HJ.out (by have:=fA.out;rw[decide_eq_true hr4]at this;simpa using this.symm));go_wp2;go_ret;exact⟨Pl.ae HE.out.symm,uQ.out⟩
        ·have HE:=hid (HK.out (by have:=fA.out;rw[decide_eq_false hr4]at this;simpa using this.symm));go_wp2;go_roundw
         case rel=>first|exact⟨(m+1)+1,by omega,by go_num,HE.out,uQ.out⟩|((repeat apply Exists.intro);exact⟨⟨(m+1)+1,by omega,by go_num,HE.out,uQ.out⟩,rfl⟩)
         case measure=>simp[intOf];omega
      ·have HK:Hid (high ts 5 t.nm=true→eK ts ((m+1)+1)=true):=fun hh=>ef HA.out (by rw[HT.out,hn,hh,he];simp);have HJ:Hid (high ts 5 t.nm=false→R=false):=fun hh=>HF.out (by rw[HT.out,hh];simp);go_wp2_with fail
       go_quiet ((go_at_call 89;exact Calls.quiet_of_same (eM _ _ HN.out.1)))
       have aY:=hid cJ;go_wp2_with fail
       clear hn mx hq he;refine(jv B ts t.nm _ (HX.out _ (al cJ _))).mono ?_;rintro e w5 ⟨⟨r,rfl,r0,r5,hr⟩,gv⟩;have uQ:Hid (Bel w w5):=aa (aa hW (al aY.out _)) gv;have fA:=hid hr;clear gv hr aY;by_cases hr4:4<r
       ·have HE:=hid (HJ.out (by have:=fA.out;rw[decide_eq_true hr4]at this;simpa using this.symm));go_wp2;go_ret;exact⟨Pl.ae HE.out.symm,uQ.out⟩
       ·have HE:=hid (HK.out (by have:=fA.out;rw[decide_eq_false hr4]at this;simpa using this.symm));go_wp2;go_roundw
        case rel=>first|exact⟨(m+1)+1,by omega,by go_num,HE.out,uQ.out⟩|((repeat apply Exists.intro);exact⟨⟨(m+1)+1,by omega,by go_num,HE.out,uQ.out⟩,rfl⟩)
        case measure=>simp[intOf];omega
  ·have HE:Hid (R=true):=by
    show R=true;obtain rfl:k=ts.length:=by omega
    rw[HR.out,dG,HA.out];simp[jr]
   go_wp2;go_ret;exact⟨Pl.ae HE.out.symm,hW⟩
def ff (L:Lw):Bool:=aO L.shapes L.mends&&dG L.teams
theorem DX (L:Lw) (a0 a1 a2:Nat) (w:World) (h:iy w a0 a1 a2 L):
  Calls Tryz.prog 24 #[.agg #[.slice (some ⟨a0,0,none⟩) L.shapes.length L.shapes.length,.slice (some ⟨a1,0,none⟩) L.mends.length L.mends.length,.slice (some ⟨a2,0,none⟩) L.teams.length L.teams.length]] w fun e w'=>e=.returned (.bool (ff L))∧Bel w w':=by
 have HA:=hid h;clear h;obtain⟨wa,dX⟩:∃ wa,wa=w.alloc (.cells #[.slice (some ⟨a0,0,none⟩) L.shapes.length L.shapes.length,.slice (some ⟨a1,0,none⟩) L.mends.length L.mends.length,.slice (some ⟨a2,0,none⟩) L.teams.length L.teams.length] 40):=⟨_,rfl⟩
 have ea:Hid (Bel w wa):=by show Below _ _ _;rw[dX];exact ab br _
 have iC:Hid (ch wa w.heap.size (.slice (some ⟨a0,0,none⟩) L.shapes.length L.shapes.length) (.slice (some ⟨a1,0,none⟩) L.mends.length L.mends.length) (.slice (some ⟨a2,0,none⟩) L.teams.length L.teams.length)):=by show ch _ _ _ _ _;rw[dX];exact ch.bV w _ _ _ _ _ rfl
 obtain⟨yz,y0,y1,y2⟩:=iC.out;go_enter Tryz.func24,Tryz.ntmps24
 go_upto_region 1 with fail
 rw[← dX];clear dX;go_wp2_with fail
 refine(yu a0 a1 L.shapes L.mends wa (HA.out.later ea.out).s (HA.out.later ea.out).m).mono ?_;rintro e wb ⟨rfl,hb⟩;have jf:=hid (aa ea.out hb);have kE:=hid (iC.out.later hb);clear hb yz y0 y1 y2 iC ea;obtain⟨yz,y0,y1,y2⟩:=kE.out;obtain⟨mb,qk⟩:∃ mb,mb=aO L.shapes L.mends:=⟨_,rfl⟩
 have HM:=hid qk;rw[← qk];clear qk;cases mb
 ·have HF:Hid (ff L=false):=by show ff L=false;unfold ff;rw[← HM.out];rfl
  go_wp2;go_ret;exact⟨by rw[HF.out];rfl,jf.out⟩
 go_wp2_with fail
 refine(yT a2 L.teams wb (HA.out.later jf.out).t).mono ?_;rintro e wc ⟨rfl,hb⟩;have jO:=hid (aa jf.out hb);clear hb yz y0 y1 y2 kE;have HF:Hid (ff L=dG L.teams):=by show ff L=_;unfold ff;rw[← HM.out];rfl
 obtain⟨tb,yk⟩:∃ tb,tb=dG L.teams:=⟨_,rfl⟩
 rw[← yk]at HF;rw[← yk];clear yk;go_wp2;go_ret;exact⟨by rw[HF.out];rfl,jO.out⟩
theorem Ek (L:Lw) (a0 a1 a2:Nat) (w:World) (h:iy w a0 a1 a2 L):
  Calls Tryz.prog 36 #[.agg #[.slice (some ⟨a0,0,none⟩) L.shapes.length L.shapes.length,.slice (some ⟨a1,0,none⟩) L.mends.length L.mends.length,.slice (some ⟨a2,0,none⟩) L.teams.length L.teams.length]] w fun e w'=>e=.returned (.bool (ff L))∧Bel w w':=by
 have HA:=hid h;clear h;obtain⟨wa,dX⟩:∃ wa,wa=w.alloc (.cells #[.slice (some ⟨a0,0,none⟩) L.shapes.length L.shapes.length,.slice (some ⟨a1,0,none⟩) L.mends.length L.mends.length,.slice (some ⟨a2,0,none⟩) L.teams.length L.teams.length] 40):=⟨_,rfl⟩
 have ea:Hid (Bel w wa):=by show Below _ _ _;rw[dX];exact ab br _
 have iC:Hid (ch wa w.heap.size (.slice (some ⟨a0,0,none⟩) L.shapes.length L.shapes.length) (.slice (some ⟨a1,0,none⟩) L.mends.length L.mends.length) (.slice (some ⟨a2,0,none⟩) L.teams.length L.teams.length)):=by show ch _ _ _ _ _;rw[dX];exact ch.bV w _ _ _ _ _ rfl
 obtain⟨yz,y0,y1,y2⟩:=iC.out;go_enter Tryz.func36,Tryz.ntmps36
 go_upto_region 1 with fail
 rw[← dX];clear dX;go_wp2_with fail
 refine(z8 a0 a1 L.shapes L.mends wa (HA.out.later ea.out).s (HA.out.later ea.out).m).mono ?_;rintro e wb ⟨rfl,hb⟩;have jf:=hid (aa ea.out hb);have kE:=hid (iC.out.later hb);clear hb yz y0 y1 y2 iC ea;obtain⟨yz,y0,y1,y2⟩:=kE.out;obtain⟨mb,qk⟩:∃ mb,mb=aO L.shapes L.mends:=⟨_,rfl⟩
 have HM:=hid qk;rw[← qk];clear qk;cases mb
 ·have HF:Hid (ff L=false):=by show ff L=false;unfold ff;rw[← HM.out];rfl
  go_wp2;go_ret;exact⟨by rw[HF.out];rfl,jf.out⟩
 go_wp2_with fail
 refine(yZ a2 L.teams wb (HA.out.later jf.out).t).mono ?_;rintro e wc ⟨rfl,hb⟩;have jO:=hid (aa jf.out hb);clear hb yz y0 y1 y2 kE;have HF:Hid (ff L=dG L.teams):=by show ff L=_;unfold ff;rw[← HM.out];rfl
 obtain⟨tb,yk⟩:∃ tb,tb=dG L.teams:=⟨_,rfl⟩
 rw[← yk]at HF;rw[← yk];clear yk;go_wp2;go_ret;exact⟨by rw[HF.out];rfl,jO.out⟩
theorem l5 (B:Nat) (l:List Ob) (kd nm:ByteArray) (w:World) (h:fS w B l) (ha:jh l=true):
  Calls Tryz.prog 143 #[.slice (some ⟨B,0,none⟩) l.length l.length,.string kd,.string nm] w fun e w'=>e=.returned (.tuple #[.int .i64 (dK l kd nm:Nat),.bool (decide (kF l kd nm<l.length))])∧Bel w w':=by
 have hl:=h.len;have hb:=GY B l kd nm (.string ⟨#[]⟩) (.slice none 0 0) (.bool false) (.slice none 0 0) (.int .i64 0) (dK l kd nm) w h (oz l kd nm) (oL l kd nm) (tD ha kd nm);rw[Cm ha kd nm]at hb;have HB:=hid hb;clear hb h ha;obtain⟨p,hp⟩:∃ p,p=dK l kd nm:=⟨_,rfl⟩
 obtain⟨r,hr⟩:∃ r,r=decide (kF l kd nm<l.length):=⟨_,rfl⟩
 rw[← hp,← hr]at HB ⊢;clear hp hr;go_enter Tryz.func143,Tryz.ntmps143
 go_wp2_with fail
 refine HB.out.mono ?_;rintro e w' ⟨rfl,hb⟩;go_wp2;go_ret2;exact⟨rfl,hb⟩
theorem mj (B:Nat) (l:List Lg) (tm rs:ByteArray) (w:World) (h:gG w B l) (ha:gj l=true):
  Calls Tryz.prog 96 #[.slice (some ⟨B,0,none⟩) l.length l.length,.string tm,.string rs] w fun e w'=>e=.returned (.tuple #[.int .i64 (dE l tm rs:Nat),.bool (decide (il l tm rs<l.length))])∧Bel w w':=by
 have hl:=h.len;have hb:=Hb B l tm rs (.int .i64 0) (.int .i64 0) (dE l tm rs) w h (nP l tm rs) (oh l tm rs) (uf ha tm rs);rw[BE ha tm rs]at hb;have HB:=hid hb;clear hb h ha;obtain⟨p,hp⟩:∃ p,p=dE l tm rs:=⟨_,rfl⟩
 obtain⟨r,hr⟩:∃ r,r=decide (il l tm rs<l.length):=⟨_,rfl⟩
 rw[← hp,← hr]at HB ⊢;clear hp hr;go_enter Tryz.func96,Tryz.ntmps96
 go_wp2_with fail
 refine HB.out.mono ?_;rintro e w' ⟨rfl,hb⟩;go_wp2;go_ret2;exact⟨rfl,hb⟩
def fW (K:Bk):Bool:=within K.now 0 1000000&&within K.tick 0 1000000&&within K.given 0 K.now
def m8 (given:Int) (g:Gr):Bool:=within g.number 1 given&&Pl.aq g.too&&(g.by_.toList.isEmpty||Pl.aq g.by_)&&eo g.rule
def bZ (K:Bk) (i:Nat):Bool:=m8 K.given (K.grants.getD i Gr.none)
def eU (K:Bk):Bool:=decide (K.grants.length≤24)&&nC K.grants&&aD (bZ K) K.grants.length
def lJ (L:Lw) (x:Lg):Bool:=bA L.teams x.team&&Pl.aq x.res&&within x.most 0 1000000&&within x.free 0 x.most
def cz (L:Lw) (K:Bk) (i:Nat):Bool:=lJ L (K.ledgers.getD i Lg.none)
def dM (L:Lw) (K:Bk):Bool:=decide (K.ledgers.length≤10)&&gj K.ledgers&&aD (cz L K) K.ledgers.length
def lP (K:Bk) (x:Ps):Bool:=decide (il K.ledgers x.team x.res<K.ledgers.length)&&Pl.aq x.door&&within x.amount 1 1000000&&within x.til K.tick (K.tick+10)
def ct (K:Bk) (i:Nat):Bool:=lP K (K.purses.getD i Ps.none)
def eF (K:Bk):Bool:=decide (K.purses.length≤24)&&mD K.purses&&aD (ct K) K.purses.length
def vi (L:Lw) (K:Bk) (x:Lg):Int:=wrap64 (wrap64 (used L K x.team x.res+vk K.purses x.team x.res)+x.free)
def fF (L:Lw) (K:Bk) (i:Nat):Bool:=decide (vi L K (K.ledgers.getD i Lg.none)=(K.ledgers.getD i Lg.none).most)
def ij (L:Lw) (K:Bk):Bool:=aD (fF L K) K.ledgers.length
def oF (K:Bk) (f:Fld) (v:ByteArray):Bool:= !(decide (f.kind=4)&& !v.toList.isEmpty)||decide (kF K.objects f.to v<K.objects.length)
def cF (K:Bk) (fs:List Fld) (vs:List ByteArray) (i:Nat):Bool:=oF K (fs.getD i Fld.none) (vs.getD i ByteArray.empty)
def fieldsOf (L:Lw) (o:Ob):List Fld:=(L.shapes.getD (aB L.shapes o.kind) Shp.none).fields
def gF (L:Lw) (K:Bk) (o:Ob):Bool:=aJ L.shapes o.kind&&decide (dk (fieldsOf L o) o=0)&&bA L.teams o.team&&within o.version 1 K.now&&dZ (bL L.shapes L.mends o) o.values&&aD (cF K (fieldsOf L o) o.values) (fieldsOf L o).length
def cy (L:Lw) (K:Bk) (i:Nat):Bool:=gF L K (K.objects.getD i Ob.none)
def ec (L:Lw) (K:Bk):Bool:=decide (K.objects.length≤40)&&jh K.objects&&aD (cy L K) K.objects.length
def jt (L:Lw) (K:Bk):Bool:=ff L&&fW K&&ec L K&&eU K&&dM L K&&eF K&&ij L K
structure aT (W:World) (p:Nat) (cs:Array Value):Prop where
 lt:p<W.heap.size
 at_:∀ j,W.cell? ⟨p,j,none⟩=cs[j]?
theorem aT.later {W W':World} {p:Nat} {cs:Array Value} (h:aT W p cs) (hb:Bel W W'):aT W' p cs:=
 ⟨lo h.lt hb.size,fun j=>(hb.cell (p:=⟨p,j,none⟩) h.lt).trans (h.at_ j)⟩
theorem aT.bV (W:World) (p:Nat) (cs:Array Value) (t:TypeId) (hp:p=W.heap.size):aT (W.alloc (.cells cs t)) p cs:=by
 subst hp;exact⟨by simp,fun j=>World.cell?_alloc_at _ _ _ _ rfl⟩
theorem aT.ek {W:World} {p:Nat} {cs:Array Value} (h:aT W p cs) (o:Obj):aT (W.alloc o) p cs:=h.later (ab br o)
end Go.Proofs.YtbiokpmdghmgcaaGreat
