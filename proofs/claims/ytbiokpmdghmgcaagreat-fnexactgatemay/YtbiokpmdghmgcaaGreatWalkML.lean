import Derived.Deep.DeepCutAuto
import Derived.Deep.RegionWith
import Derived.Test.YtbiokpmdghmgcaaGreatMemM
import Derived.Test.YtbiokpmdghmgcaaGreatWalkX
namespace Go.Proofs.YtbiokpmdghmgcaaGreat
set_option maxRecDepth 8000
set_option maxHeartbeats 40000000
open Go.RowKit Go.Deep
def aQ (fs:List Fld) (k:ByteArray):Bool:=decide (nameAt fs k<fs.length)&& !decide ((fs.getD (nameAt fs k) Fld.none).kind=4)
def fS (fs:List Fld) (f r:ByteArray):Bool:=Pl.aE r||(!(r.toList==f.toList)&&aQ fs r)
def mq (m:Mnd):Bool:=(Pl.aE m.whn&& !Pl.aE m.is_)||(Pl.aE m.put==Pl.aE m.frm)
def aR (fs:List Fld) (m:Mnd):Bool:=aQ fs m.field&& !mq m&&fS fs m.field m.whn&&fS fs m.field m.frm&&(Pl.aE m.put||dC (fs.getD (nameAt fs m.field) Fld.none) m.put)
theorem og (B:Nat) (fs:List Fld) (k:ByteArray) (w:World) (h:bW w B fs):
  Calls Tryz.prog 172 #[.slice (some ⟨B,0,none⟩) fs.length fs.length,.string k] w fun e w'=>(∃ r:Int,e=.returned (.int .i64 r)∧r=(if aQ fs k=true then (nameAt fs k:Int) else -1))∧Bel w w':=by
 have HH:Hid (bW w B fs):=h;have hl:=h.len;obtain⟨R,hR⟩:∃ R:Int,R=(if aQ fs k=true then (nameAt fs k:Int) else -1):=⟨_,rfl⟩
 rw[← hR];have HR:Hid (R=(if aQ fs k=true then (nameAt fs k:Int) else -1)):=hR;clear h hR;go_enter Tryz.func172,Tryz.ntmps172
 go_wp2_with fail
 refine(fieldPlace B fs k w HH.out).mono ?_;rintro e w2 ⟨⟨r,rfl,hr⟩,aA⟩;by_cases hq:nameAt fs k<fs.length
 ·rw[if_pos hq]at hr;subst hr;obtain⟨q,tC⟩:∃ q,q=nameAt fs k:=⟨_,rfl⟩
  obtain⟨f,hf⟩:∃ f,f=fs.getD q Fld.none:=⟨_,rfl⟩
  rw[← tC]at hq ⊢;obtain⟨b,_,dP⟩:=(HH.out.later aA).arg hq hf;have c1:=dP.c1;have hB:=(HH.out.later aA).lt;have HF:Hid (aQ fs k= !decide (f.kind=4)):=by show _=_;unfold aQ;rw[← tC,← hf];simp[hq]
  have HQ:Hid (q=nameAt fs k):=tC;clear dP hf tC;by_cases h4:f.kind=4
  ·have HP:Hid (aQ fs k=false):=by show _=_;rw[HF.out];simp[h4]
   go_wp2;go_ret;exact⟨⟨_,rfl,by rw[HR.out,HP.out];rfl⟩,aA⟩
  ·have HP:Hid (aQ fs k=true):=by show _=_;rw[HF.out];simp[h4]
   go_wp2;go_ret;exact⟨⟨_,rfl,by rw[HR.out,HP.out,if_pos rfl,HQ.out]⟩,aA⟩
 ·rw[if_neg hq]at hr;subst hr;have HP:Hid (aQ fs k=false):=by show _=_;unfold aQ;simp[hq]
  go_wp2;go_ret;exact⟨⟨_,rfl,by rw[HR.out,HP.out];rfl⟩,aA⟩
theorem jv {fs:List Fld} {k:ByteArray} (h:aQ fs k=true):nameAt fs k<fs.length:=by
 unfold aQ at h;have:=(Bool.and_eq_true _ _).mp h;exact of_decide_eq_true this.1
theorem mA (f:Fld) (b:Nat) (v:ByteArray) (w:World) (hv:v.size≤maxLen) (h:eE w b f):
  Calls Tryz.prog 173 #[.agg #[.string f.nm,.int .i64 f.kind,.int .i64 f.least,.int .i64 f.most,.slice (some ⟨b,0,none⟩) f.words.length f.words.length,.string f.to,.int .i64 f.role,.bool f.must,.bool f.fixed,.string f.de,.string f.we],.string v] w
   fun e w'=>e=.returned (.bool (dC f v))∧Bel w w':=
 mi f.nm f.kind f.least f.most b 0 _ f.to f.role f.must f.fixed f.de f.we v f.words w hv h.lt (by have:=h.small;unfold Fld.small at this;unfold maxLen;omega) h.cells
theorem CQ (B:Nat) (fs:List Fld) (m:Mnd) (w:World) (h:bW w B fs) (hm:m.sized):
  Calls Tryz.prog 133 #[.slice (some ⟨B,0,none⟩) fs.length fs.length,.agg #[.string m.kind,.string m.field,.string m.whn,.string m.is_,.string m.put,.string m.frm]] w fun e w'=>e=.returned (.bool (aR fs m))∧Bel w w':=by
 have HH:=hid (And.intro h hm);have hl:=h.len;clear h hm;have gd:Hid (Bel w (w.alloc (.cells #[.string m.kind,.string m.field,.string m.whn,.string m.is_,.string m.put,.string m.frm] 136))):=ab br _;have KT:Hid (ga (w.alloc (.cells #[.string m.kind,.string m.field,.string m.whn,.string m.is_,.string m.put,.string m.frm] 136)) w.heap.size 0 m∧ai (w.alloc (.cells #[.string m.kind,.string m.field,.string m.whn,.string m.is_,.string m.put,.string m.frm] 136)) w.heap.size 136 6):=⟨⟨by simp,by simp,by simp,by simp,by simp,by simp,HH.out.2⟩,ai.alloc w _ 136 6 rfl⟩
 go_enter Tryz.func133,Tryz.ntmps133
 go_wp2_with fail
 refine(og B fs m.field _ (HH.out.1.later gd.out)).mono ?_;rintro e w1 ⟨⟨r,rfl,hr⟩,bl⟩;have cQ:=hid (aa gd.out bl);have lH:=hid (And.intro (KT.out.1.later bl KT.out.2.lt) (lo KT.out.2.lt bl.size));have jr:=lH.out.2;have m1:=lH.out.1.c1;have m2:=lH.out.1.c2;have m3:=lH.out.1.c3;have m4:=lH.out.1.c4;have m5:=lH.out.1.c5;clear bl gd KT;cases eI:aQ fs m.field
 ·have HR:Hid (aR fs m=false):=by show _=_;unfold aR;rw[eI];rfl
  rw[eI,if_neg (by decide)]at hr;subst hr;go_wp2;go_ret;exact⟨Pl.ae HR.out.symm,cQ.out⟩
 rw[eI,if_pos rfl]at hr;subst hr;have hq:=jv eI;obtain⟨q,tC⟩:∃ q,q=nameAt fs m.field:=⟨_,rfl⟩
 rw[← tC]at hq ⊢;have HQ:=hid (And.intro tC eI);clear tC eI;go_upto_region 2 with fail
 go_cut [32] (fun s wx=>s=.bool (mq m)∧wx=w1)
 case first=>
  have lI:Hid (mq m=((m.whn.toList.isEmpty&& !m.is_.toList.isEmpty)||(m.put.toList.isEmpty==m.frm.toList.isEmpty))):=rfl;cases h2:m.whn.toList.isEmpty<;>cases h3:m.is_.toList.isEmpty<;>cases h4:m.put.toList.isEmpty<;>cases h5:m.frm.toList.isEmpty
  all_goals
   go_wp2_with fail
   go_meet
   exact⟨by rw[lI.out,h2,h3,h4,h5];rfl,rfl⟩
 case rest=>
 obtain⟨rfl,wY⟩:=hcut;subst wY;rename World=>w1;cases GH:mq m
 case true=>
  have HR:Hid (aR fs m=false):=by show _=_;unfold aR;rw[GH];simp
  go_wp2;go_ret;exact⟨Pl.ae HR.out.symm,cQ.out⟩
 have HBD:Hid (mq m=false):=GH;clear GH;go_wp2;obtain⟨wl,KW⟩:∃ wl,wl=w1.alloc (.cells #[.string m.whn,.string m.frm] 9):=⟨_,rfl⟩
 have J0:Hid (w1.heap.size<wl.heap.size∧wl.cell? ⟨w1.heap.size,0,none⟩=some (.string m.whn)∧wl.cell? ⟨w1.heap.size,1,none⟩=some (.string m.frm)):=by
  show _∧_∧_;rw[KW];exact⟨by simp,by simp,by simp⟩
 have Ek:Bel w1 wl:=by rw[KW];exact ab br _
 have F2:=hid (aa cQ.out Ek);have Ka:=hid (And.intro (lH.out.1.later Ek lH.out.2) (lo lH.out.2 Ek.size));rw[← KW];clear KW Ek m1 m2 m3 m4 m5 lH;go_loopw [39] (fun i wr=>∃ k:Nat,k≤2∧i=.int .i64 k∧Bel wl wr∧(1≤k→fS fs m.field m.whn=true)∧(2≤k→fS fs m.field m.frm=true)) (fun i _=>2 - (intOf i).toNat)
 case atStart=>exact⟨0,by omega,rfl,br,fun h=>by omega,fun h=>by omega⟩
 case round=>
  obtain⟨k,hk,rfl,hW,Mc,ES⟩:=hrel;have K0:Hid (Bel wl wr):=hW;have Cq:=hid (aa F2.out hW);have KI:=hid (And.intro Mc ES);have t0:=(hW.cell (p:=⟨w1.heap.size,0,none⟩) J0.out.1).trans J0.out.2.1;have t1:=(hW.cell (p:=⟨w1.heap.size,1,none⟩) J0.out.1).trans J0.out.2.2;have hzl:=lo J0.out.1 hW.size;have Ke:=lo Ka.out.2 hW.size;have n1:=(Ka.out.1.later hW Ka.out.2).c1;clear Mc ES;by_cases k0:k=0
  ·subst k0;have RX:Hid (fS fs m.field m.whn=(m.whn.toList.isEmpty||(!(m.whn.toList==m.field.toList)&&aQ fs m.whn))):=rfl;cases he:m.whn.toList.isEmpty
   ·cases hq2:(m.whn.toList==m.field.toList)
    ·have HX:=hid (og B fs m.whn wr (HH.out.1.later Cq.out));go_wp2_with fail
     refine HX.out.mono ?_;rintro e w3 ⟨⟨r,rfl,hr⟩,aO⟩;have fO:=hid (aa K0.out aO);clear aO HX t0 t1 n1 Ke hzl;cases eI:aQ fs m.whn
     ·rw[eI,if_neg (by decide)]at hr;subst hr;have HR:Hid (aR fs m=false):=by show _=_;unfold aR;rw[RX.out,he,hq2,eI];simp
      go_wp2;go_ret;exact⟨Pl.ae HR.out.symm,aa F2.out fO.out⟩
     ·rw[eI,if_pos rfl]at hr;subst hr;have HN:Hid (fS fs m.field m.whn=true):=by show _=_;rw[RX.out,he,hq2,eI];rfl
      go_wp2;go_roundw
      case rel=>exact⟨0+1,by omega,by go_num,fO.out,fun _=>HN.out,fun h=>by omega⟩
      case measure=>simp[intOf]
    ·have HR:Hid (aR fs m=false):=by show _=_;unfold aR;rw[RX.out,he,hq2];simp
     go_wp2;go_ret;exact⟨Pl.ae HR.out.symm,Cq.out⟩
   ·have HN:Hid (fS fs m.field m.whn=true):=by show _=_;rw[RX.out,he];rfl
    go_wp2;go_roundw
    case rel=>exact⟨0+1,by omega,by go_num,K0.out,fun _=>HN.out,fun h=>by omega⟩
    case measure=>simp[intOf]
  by_cases k1:k=1
  ·subst k1;have RX:Hid (fS fs m.field m.frm=(m.frm.toList.isEmpty||(!(m.frm.toList==m.field.toList)&&aQ fs m.frm))):=rfl;cases he:m.frm.toList.isEmpty
   ·cases hq2:(m.frm.toList==m.field.toList)
    ·have HX:=hid (og B fs m.frm wr (HH.out.1.later Cq.out));go_wp2_with fail
     refine HX.out.mono ?_;rintro e w3 ⟨⟨r,rfl,hr⟩,aO⟩;have fO:=hid (aa K0.out aO);clear aO HX t0 t1 n1 Ke hzl;cases eI:aQ fs m.frm
     ·rw[eI,if_neg (by decide)]at hr;subst hr;have HR:Hid (aR fs m=false):=by show _=_;unfold aR;rw[RX.out,he,hq2,eI];simp
      go_wp2;go_ret;exact⟨Pl.ae HR.out.symm,aa F2.out fO.out⟩
     ·rw[eI,if_pos rfl]at hr;subst hr;have HN:Hid (fS fs m.field m.frm=true):=by show _=_;rw[RX.out,he,hq2,eI];rfl
      go_wp2;go_roundw
      case rel=>exact⟨1+1,by omega,by go_num,fO.out,fun _=>KI.out.1 (by omega),fun _=>HN.out⟩
      case measure=>simp[intOf]
    ·have HR:Hid (aR fs m=false):=by show _=_;unfold aR;rw[RX.out,he,hq2];simp
     go_wp2;go_ret;exact⟨Pl.ae HR.out.symm,Cq.out⟩
   ·have HN:Hid (fS fs m.field m.frm=true):=by show _=_;rw[RX.out,he];rfl
    go_wp2;go_roundw
    case rel=>exact⟨1+1,by omega,by go_num,K0.out,fun _=>KI.out.1 (by omega),fun _=>HN.out⟩
    case measure=>simp[intOf]
  obtain rfl:k=2:=by omega
  have n4:=(Ka.out.1.later hW Ka.out.2).c4;have HE:Hid (aR fs m=(m.put.toList.isEmpty||dC (fs.getD q Fld.none) m.put)):=by
   show aR fs m=_;unfold aR;rw[KI.out.1 (by omega),KI.out.2 (by omega),HQ.out.2,HBD.out,← HQ.out.1];simp[Pl.aE]
  clear t0 t1 n1;cases yS:m.put.toList.isEmpty
  ·obtain⟨f,hf⟩:∃ f,f=fs.getD q Fld.none:=⟨_,rfl⟩
   obtain⟨b,pT,dP⟩:=(HH.out.1.later Cq.out).arg hq hf;have G2:Hid (eE wr b f):=pT;have HR:Hid (aR fs m=dC f m.put):=by show _=_;rw[HE.out,yS,← hf];rfl
   have GN:=(HH.out.1.later Cq.out).lt;obtain⟨c0,c1,c2,c3,c4,c5,c6,c7,c8,c9,c10,_,_⟩:=dP;clear pT hf HE;have HX:Hid (∀ W,Bel wr W→Calls Tryz.prog 173 #[.agg #[.string f.nm,.int .i64 f.kind,.int .i64 f.least,.int .i64 f.most,.slice (some ⟨b,0,none⟩) f.words.length f.words.length,.string f.to,.int .i64 f.role,.bool f.must,.bool f.fixed,.string f.de,.string f.we],.string m.put] W fun e w'=>e=.returned (.bool (aR fs m))∧Bel W w'):=by
    intro W ml;rw[HR.out];exact mA f b m.put W HH.out.2.2.2.2.2.1 (G2.out.later ml)
   go_wp2_with fail
   go_region_with (go_at_call 173;refine(HX.out _ ?_).mono ?_;(repeat(first|exact br|refine Below.drew ?_));rintro e w3 ⟨rfl,aO⟩)
   all_goals
    go_wp2;go_ret;exact⟨rfl,by repeat(first|exact aa Cq.out aO|exact aa Cq.out.drew aO|exact aa Cq.out.drew.drew aO|refine Below.drew ?_)⟩
  ·have HR:Hid (aR fs m=true):=by show _=_;rw[HE.out,yS];rfl
   clear HE;go_wp2_with fail
   go_region
   all_goals
    go_wp2;go_ret;exact⟨Pl.ae HR.out.symm,by repeat(first|exact Cq.out|refine Below.drew ?_)⟩
set_option maxRecDepth 8000
set_option maxHeartbeats 40000000
open Go.RowKit Go.Deep
theorem qN (B:Nat) (fs:List Fld) (k:ByteArray) (w:World) (h:bW w B fs):
  Calls Tryz.prog 163 #[.slice (some ⟨B,0,none⟩) fs.length fs.length,.string k] w fun e w'=>e=.returned (.int .i64 (if nameAt fs k<fs.length then (nameAt fs k:Int) else -1))∧w=w':=by
 have hl:=h.len;have HH:=hid h;obtain⟨R,hR⟩:∃ R:Int,R=(if nameAt fs k<fs.length then (nameAt fs k:Int) else -1):=⟨_,rfl⟩
 rw[← hR];have HR:=hid hR;have hB:=h.lt;clear h hR;go_enter Tryz.func163,Tryz.ntmps163
 go_wp2;go_loop [5] (fun i=>∃ q:Nat,q≤fs.length∧i=.int .i64 q∧q≤nameAt fs k) (fun i=>fs.length - (intOf i).toNat)
 case atStart=>exact⟨0,nz,rfl,nz⟩
 case round=>
  obtain⟨q,hq,rfl,iM⟩:=hrel;have HN:=hid iM;clear iM;by_cases av:q<fs.length
  ·obtain⟨f,fH⟩:∃ f,f=fs.getD q Fld.none:=⟨_,rfl⟩
   obtain⟨b,_,hf⟩:=HH.out.arg av fH;have c0:=hf.c0;clear hf;cases ht:(f.nm.toList==k.toList)
   ·have HM:=hid (iQ fs k q av HN.out (by rw[← fH];exact ht));clear fH;go_wp2;go_round
    case rel=>exact⟨q+1,by omega,by go_num,HM.out⟩
    case measure=>simp[intOf];omega
   ·have HM:=hid (jP fs k q av HN.out (by rw[← fH];exact ht));clear fH;go_wp2;go_ret;exact⟨Pl.aP (by rw[HR.out,HM.out,if_pos av]),rfl⟩
  ·go_wp2;go_ret;exact⟨Pl.aP (by rw[HR.out,if_neg (by have:=HN.out;omega)]),rfl⟩
theorem Dg (B:Nat) (fs:List Fld) (k:ByteArray) (w:World) (h:bW w B fs):
  Calls Tryz.prog 162 #[.slice (some ⟨B,0,none⟩) fs.length fs.length,.string k] w fun e w'=>e=.returned (.bool (aQ fs k))∧w=w':=by
 have HH:=hid h;have hl:=h.len;obtain⟨R,hR⟩:∃ R,R=aQ fs k:=⟨_,rfl⟩
 rw[← hR];have HR:=hid hR;have hB:=h.lt;clear h hR;go_enter Tryz.func162,Tryz.ntmps162
 go_wp2_with fail
 refine(qN B fs k w HH.out).mono ?_;rintro e w2 ⟨rfl,rfl⟩;by_cases hq:nameAt fs k<fs.length
 ·rw[if_pos hq];obtain⟨q,tC⟩:∃ q,q=nameAt fs k:=⟨_,rfl⟩
  obtain⟨f,hf⟩:∃ f,f=fs.getD q Fld.none:=⟨_,rfl⟩
  rw[← tC]at hq ⊢;obtain⟨b,_,dP⟩:=HH.out.arg hq hf;have c1:=dP.c1;have HF:Hid (R= !decide (f.kind=4)):=by show R=_;rw[HR.out];unfold aQ;rw[← tC,← hf];simp[hq]
  clear dP hf tC;by_cases h4:f.kind=4
  ·have HP:Hid (R=false):=by show _=_;rw[HF.out];simp[h4]
   go_wp2;go_ret;exact⟨Pl.ae HP.out.symm,rfl⟩
  ·have HP:Hid (R=true):=by show R=true;rw[HF.out];simp[h4]
   go_wp2;go_ret;exact⟨Pl.ae (by rw[HP.out];simp[h4]),rfl⟩
 ·rw[if_neg hq];have HP:Hid (R=false):=by show _=_;rw[HR.out];unfold aQ;simp[hq]
  go_wp2;go_ret;exact⟨Pl.ae HP.out.symm,rfl⟩
theorem mH (f:Fld) (b:Nat) (v:ByteArray) (w:World) (hv:v.size≤maxLen) (h:eE w b f):
  Calls Tryz.prog 120 #[.agg #[.string f.nm,.int .i64 f.kind,.int .i64 f.least,.int .i64 f.most,.slice (some ⟨b,0,none⟩) f.words.length f.words.length,.string f.to,.int .i64 f.role,.bool f.must,.bool f.fixed,.string f.de,.string f.we],.string v] w
   fun e w'=>e=.returned (.bool (dC f v))∧Bel w w':=
 eQ f.nm f.kind f.least f.most b 0 _ f.to f.role f.must f.fixed f.de f.we v f.words w hv h.lt (by have:=h.small;unfold Fld.small at this;unfold maxLen;omega) h.cells
def ff (w:World) (v:Value) (l:List ByteArray):Prop:=
 ∃ g c,v=.slice (some ⟨g,0,none⟩) l.length c∧g<w.heap.size∧l.length≤1048576∧∀ i,i<l.length→w.cell? ⟨g,i,none⟩=some (.string (l.getD i ByteArray.empty))
theorem ff.later {w w':World} {v:Value} {l:List ByteArray} (h:ff w v l) (hb:Bel w w'):ff w' v l:=by
 obtain⟨g,c,rfl,h1,h2,h3⟩:=h;exact⟨g,c,rfl,lo h1 hb.size,h2,fun i hi=>(hb.cell (p:=⟨g,i,none⟩) h1).trans (h3 i hi)⟩
theorem Fc (v:Value) (l:List ByteArray) (s:ByteArray) (w:World) (h:ff w v l):
  Calls Tryz.prog 164 #[v,.string s] w fun e w'=>e=.returned (.bool (Pl.has l s))∧w=w':=by
 obtain⟨g,c,rfl,_,h2,h3⟩:=h;exact qa g 0 c l s w (by unfold maxLen;omega) (fun i hi=>by rw[Nat.zero_add];exact h3 i hi)
def qm (row:List ByteArray) (k:ByteArray):Bool:=Pl.aE k||Pl.has row k
def iZ (K f:ByteArray) (row:List ByteArray) (m:Mnd):Bool:= !(m.kind.toList==K.toList&&m.field.toList==f.toList)||(qm row m.whn&&qm row m.frm)
def iz (ms:List Mnd) (K f:ByteArray) (row:List ByteArray):Bool:=(List.range ms.length).all fun i=>iZ K f row (ms.getD i Mnd.none)
def ks (ms:List Mnd) (K f:ByteArray) (row:List ByteArray) (k:Nat):Bool:=(List.range k).all fun i=>iZ K f row (ms.getD i Mnd.none)
theorem wG (mb:Nat) (ms:List Mnd) (K f:ByteArray) (a:Option Addr) (n c:Nat) (row:List ByteArray) (w:World) (h:dv w mb ms) (hr:ff w (.slice a n c) row):
  Calls Tryz.prog 165 #[.slice (some ⟨mb,0,none⟩) ms.length ms.length,.string K,.string f,.slice a n c] w fun e w'=>e=.returned (.bool (iz ms K f row))∧Bel w w':=by
 have hl:=h.len;have HH:=hid (And.intro h hr);have qE:=h.lt;clear h hr;go_enter Tryz.func165,Tryz.ntmps165
 go_wp2;go_loopw [9] (fun i wr=>∃ k:Nat,k≤ms.length∧i=.int .i64 k∧ks ms K f row k=true∧Bel w wr) (fun i _=>ms.length - (intOf i).toNat)
 case atStart=>exact⟨0,nz,rfl,rfl,br⟩
 case round=>
  obtain⟨k,hk,rfl,aw,hW⟩:=hrel;have HA:=hid aw;have HW:=hid hW;clear aw;by_cases av:k<ms.length
  ·have iL:=(HH.out.1.later hW).at_ k av;obtain⟨m,g9⟩:∃ m,m=ms.getD k Mnd.none:=⟨_,rfl⟩
   rw[← g9]at iL;have hmb2:=lo qE hW.size;obtain⟨c0,c1,c2,c3,c4,c5,_⟩:=iL;have HT:Hid (iZ K f row (ms.getD k Mnd.none)=(!(m.kind.toList==K.toList&&m.field.toList==f.toList)||((m.whn.toList.isEmpty||Pl.has row m.whn)&&(m.frm.toList.isEmpty||Pl.has row m.frm)))):=by rw[← g9];rfl
   have HS:Hid (iZ K f row (ms.getD k Mnd.none)=true→ks ms K f row (k+1)=true):=by
    intro h1;show ks ms K f row (k+1)=true;unfold ks;rw[Pl.ib,h1];have:=HA.out;unfold ks at this;rw[this];rfl
   have HZ:Hid (iZ K f row (ms.getD k Mnd.none)=false→iz ms K f row=false):=by
    intro h1;exact Pl.gl _ _ k av h1
   have HC:Hid (∀ s W,Bel wr W→Calls Tryz.prog 164 #[.slice a n c,.string s] W fun e w'=>e=.returned (.bool (Pl.has row s))∧W=w'):=fun s W ml=>Fc _ row s W (HH.out.2.later (aa HW.out ml));have cC:Bel wr (wr.alloc (.cells #[.string m.kind,.string m.field,.string m.whn,.string m.is_,.string m.put,.string m.frm] 136)):=ab br _;have qI:=hid cC;clear g9 hW cC;cases q0:(m.kind.toList==K.toList)
   ·have HR:=hid (HS.out (by rw[HT.out,q0];rfl));go_wp2;go_roundw
    case rel=>exact⟨k+1,by omega,by go_num,HR.out,aa HW.out qI.out⟩
    case measure=>simp[intOf];omega
   cases q1:(m.field.toList==f.toList)
   ·have HR:=hid (HS.out (by rw[HT.out,q0,q1];rfl));go_wp2;go_roundw
    case rel=>exact⟨k+1,by omega,by go_num,HR.out,aa HW.out qI.out⟩
    case measure=>simp[intOf];omega
   obtain⟨hw,MV⟩:∃ hw,hw=Pl.has row m.whn:=⟨_,rfl⟩
   obtain⟨hf,EH⟩:∃ hf,hf=Pl.has row m.frm:=⟨_,rfl⟩
   have Hw:Hid (∀ W,Bel wr W→Calls Tryz.prog 164 #[.slice a n c,.string m.whn] W fun e w'=>e=.returned (.bool hw)∧W=w'):=by rw[MV];exact fun W ml=>HC.out m.whn W ml
   have Ec:Hid (∀ W,Bel wr W→Calls Tryz.prog 164 #[.slice a n c,.string m.frm] W fun e w'=>e=.returned (.bool hf)∧W=w'):=by rw[EH];exact fun W ml=>HC.out m.frm W ml
   have nI:Hid (iZ K f row (ms.getD k Mnd.none)=((m.whn.toList.isEmpty||hw)&&(m.frm.toList.isEmpty||hf))):=by show _=_;rw[HT.out,q0,q1,MV,EH];rfl
   clear HT HC MV EH;cases e2:m.whn.toList.isEmpty
   ·cases e5:m.frm.toList.isEmpty
    ·go_wp2_with fail
     refine(Hw.out _ qI.out).mono ?_;rintro e w' ⟨rfl,rfl⟩;cases hw
     ·have HR:=hid (HZ.out (by rw[nI.out,e2,e5];simp));go_wp2;go_ret;exact⟨Pl.ae HR.out.symm,aa HW.out qI.out⟩
     ·go_wp2_with fail
      refine(Ec.out _ qI.out).mono ?_;rintro e w' ⟨rfl,rfl⟩;cases hf
      ·have HR:=hid (HZ.out (by rw[nI.out,e2,e5];simp));go_wp2;go_ret;exact⟨Pl.ae HR.out.symm,aa HW.out qI.out⟩
      ·have HR:=hid (HS.out (by rw[nI.out,e2,e5];rfl));go_wp2;go_roundw
       case rel=>exact⟨k+1,by omega,by go_num,HR.out,aa HW.out qI.out⟩
       case measure=>simp[intOf];omega
    ·go_wp2_with fail
     refine(Hw.out _ qI.out).mono ?_;rintro e w' ⟨rfl,rfl⟩;cases hw
     ·have HR:=hid (HZ.out (by rw[nI.out,e2,e5];simp));go_wp2;go_ret;exact⟨Pl.ae HR.out.symm,aa HW.out qI.out⟩
     ·have HR:=hid (HS.out (by rw[nI.out,e2,e5];rfl));go_wp2;go_roundw
      case rel=>exact⟨k+1,by omega,by go_num,HR.out,aa HW.out qI.out⟩
      case measure=>simp[intOf];omega
   ·cases e5:m.frm.toList.isEmpty
    ·go_wp2_with fail
     refine(Ec.out _ qI.out).mono ?_;rintro e w' ⟨rfl,rfl⟩;cases hf
     ·have HR:=hid (HZ.out (by rw[nI.out,e2,e5];simp));go_wp2;go_ret;exact⟨Pl.ae HR.out.symm,aa HW.out qI.out⟩
     ·have HR:=hid (HS.out (by rw[nI.out,e2,e5];rfl));go_wp2;go_roundw
      case rel=>exact⟨k+1,by omega,by go_num,HR.out,aa HW.out qI.out⟩
      case measure=>simp[intOf];omega
    ·have HR:=hid (HS.out (by rw[nI.out,e2,e5];rfl));go_wp2;go_roundw
     case rel=>exact⟨k+1,by omega,by go_num,HR.out,aa HW.out qI.out⟩
     case measure=>simp[intOf];omega
  ·have HR:Hid (iz ms K f row=true):=by have e:k=ms.length:=(by omega);have:=HA.out;rw[e]at this;exact this
   go_wp2;go_ret;exact⟨Pl.ae HR.out.symm,HW.out⟩
set_option maxRecDepth 8000
set_option maxHeartbeats 40000000
open Go.RowKit Go.Deep
def dA (ss:List Shp) (m:Mnd):Bool:=aK ss m.kind&&aR (ss.getD (aB ss m.kind) Shp.none).fields m
theorem lB {ss:List Shp} (h:aN ss=true) {i:Nat} (hi:i<ss.length):eP ss i=true:=by
 unfold aN fJ at h;have:=((Bool.and_eq_true _ _).mp h).2;rw[List.all_eq_true]at this;exact this i (List.mem_range.2 hi)
theorem iT {ss:List Shp} (h:aN ss=true) {i:Nat} (hi:i<ss.length):aH ss (ss.getD i Shp.none).fields=true:=by
 have:=lB h hi;unfold eP at this;exact((Bool.and_eq_true _ _).mp this).2
theorem oy {ss:List Shp} {fs:List Fld} (h:aH ss fs=true) {i:Nat} (hi:i<fs.length):fieldAt ss fs i=true:=by
 unfold aH fp at h;have:=((Bool.and_eq_true _ _).mp h).2;rw[List.all_eq_true]at this;exact this i (List.mem_range.2 hi)
theorem jO {ss:List Shp} {fs:List Fld} (h:aH ss fs=true):fs.length≤6:=by
 unfold aH at h;exact of_decide_eq_true ((Bool.and_eq_true _ _).mp h).1
theorem Cy {ss:List Shp} {fs:List Fld} (h:aH ss fs=true) {i:Nat} (hi:i<fs.length):Pl.aq (fs.getD i Fld.none).nm=true:=by
 have:=oy h hi;unfold fieldAt at this;exact((Bool.and_eq_true _ _).mp ((Bool.and_eq_true _ _).mp this).1).1
theorem tU {s:ByteArray} (h:Pl.aq s=true):s.toList.isEmpty=false:=by
 cases he:s.toList.isEmpty
 ·rfl
 ·exfalso;have hz:¬ 1≤s.size:=by
   intro h1;have:=Pl.fK s h1;rw[he]at this;cases this
  unfold Pl.aq at h;simp at h;omega
theorem mM {fs:List Fld} {k:ByteArray} (h:nameAt fs k<fs.length):((fs.getD (nameAt fs k) Fld.none).nm.toList==k.toList)=true:=by
 have e:fs.getD (nameAt fs k) Fld.none=fs[nameAt fs k]:=by simp[h]
 rw[e];exact List.findIdx_getElem (xs:=fs) (p:=fun f:Fld=>f.nm.toList==k.toList) (w:=h)
theorem xw {ss:List Shp} {fs:List Fld} (h:aH ss fs=true) {k:ByteArray} (hk:aQ fs k=true):k.toList.isEmpty=false:=by
 have hl:=jv hk;have h1:=mM hl;have h2:=tU (Cy h hl);rw[beq_iff_eq]at h1;rw[h1]at h2;exact h2
def t5 (fs:List Fld) (m:Mnd):Bool:= !aQ fs m.field||(!m.whn.toList.isEmpty&& !aQ fs m.whn)||(!m.frm.toList.isEmpty&& !aQ fs m.frm)
def t7 (m:Mnd):Bool:=(m.whn.toList==m.field.toList)||(m.frm.toList==m.field.toList)||mq m
theorem uN {fs:List Fld} {m:Mnd} (h:t5 fs m=true):aR fs m=false:=by
 unfold t5 at h;unfold aR fS Pl.aE;cases h1:aQ fs m.field
 ·rfl
 rw[h1]at h;cases h2:m.whn.toList.isEmpty<;>cases h3:m.frm.toList.isEmpty<;>cases h4:aQ fs m.whn<;>cases h5:aQ fs m.frm<;>rw[h2,h3,h4,h5]at h<;>simp at h ⊢
theorem ui {ss:List Shp} {fs:List Fld} {m:Mnd} (hf:aH ss fs=true) (h5:t5 fs m=false) (h:t7 m=true):aR fs m=false:=by
 have hp:aQ fs m.field=true:=by unfold t5 at h5;cases h1:aQ fs m.field;rw[h1]at h5;simp at h5;rfl
 have JY:=xw hf hp;unfold t7 at h;unfold aR fS Pl.aE;have ew:(m.whn.toList==m.field.toList)=true→m.whn.toList.isEmpty=false:=fun e=>by rw[beq_iff_eq]at e;rw[e];exact JY
 have er:(m.frm.toList==m.field.toList)=true→m.frm.toList.isEmpty=false:=fun e=>by rw[beq_iff_eq]at e;rw[e];exact JY
 cases h1:(m.whn.toList==m.field.toList)
 ·cases h2:(m.frm.toList==m.field.toList)
  ·rw[h1,h2]at h;have hb:mq m=true:=by simpa using h
   rw[hb];simp
  ·rw[er h2];simp
 ·rw[ew h1];simp
theorem uL {fs:List Fld} {m:Mnd} (h5:t5 fs m=false) (h7:t7 m=false):aR fs m=(m.put.toList.isEmpty||dC (fs.getD (nameAt fs m.field) Fld.none) m.put):=by
 unfold t5 at h5;unfold t7 at h7;unfold aR fS Pl.aE;cases h1:aQ fs m.field
 ·rw[h1]at h5;simp at h5
 rw[h1]at h5;cases q1:(m.whn.toList==m.field.toList)
 ·cases q2:(m.frm.toList==m.field.toList)
  ·rw[q1,q2]at h7;have hb:mq m=false:=by simpa using h7
   rw[hb];cases h2:m.whn.toList.isEmpty<;>cases h3:m.frm.toList.isEmpty<;>cases h4:aQ fs m.whn<;>cases h6:aQ fs m.frm<;>rw[h2,h3,h4,h6]at h5<;>simp at h5 ⊢
  ·rw[q2]at h7;simp at h7
 ·rw[q1]at h7;simp at h7
theorem Dr (B:Nat) (ss:List Shp) (m:Mnd) (w:World) (h:bh w B ss) (fN:aN ss=true) (hm:m.sized):
  Calls Tryz.prog 116 #[.slice (some ⟨B,0,none⟩) ss.length ss.length,.agg #[.string m.kind,.string m.field,.string m.whn,.string m.is_,.string m.put,.string m.frm]] w fun e w'=>e=.returned (.bool (dA ss m))∧Bel w w':=by
 have HH:=hid (And.intro h (And.intro fN hm));have hl:=h.len;clear h fN hm;obtain⟨w1,eb⟩:∃ w1,w1=w.alloc (.cells #[.string m.kind,.string m.field,.string m.whn,.string m.is_,.string m.put,.string m.frm] 136):=⟨_,rfl⟩
 have cQ:Hid (Bel w w1):=by show Below _ _ _;rw[eb];exact ab br _
 have lH:Hid (ga w1 w.heap.size 0 m∧w.heap.size<w1.heap.size):=by show _∧_;rw[eb];exact⟨⟨by simp,by simp,by simp,by simp,by simp,by simp,HH.out.2.2⟩,by simp⟩
 have H5:=hid (HH.out.1.later cQ.out);have jr:=lH.out.2;have m0:=lH.out.1.c0;have m1:=lH.out.1.c1;have m2:=lH.out.1.c2;have m3:=lH.out.1.c3;have m4:=lH.out.1.c4;have m5:=lH.out.1.c5;go_enter Tryz.func116,Tryz.ntmps116
 go_upto_region 1 with fail
 rw[← eb];clear eb;go_wp2_with fail
 refine(fY B ss m.kind w1 H5.out).mono ?_;rintro e w' ⟨rfl,rfl⟩;by_cases hk:aB ss m.kind<ss.length
 case neg=>
  rw[if_neg hk];have HR:Hid (dA ss m=false):=by show _=_;unfold dA aK;simp[hk]
  go_wp2;go_ret;exact⟨Pl.ae HR.out.symm,cQ.out⟩
 rw[if_pos hk];obtain⟨k,F9⟩:∃ k,k=aB ss m.kind:=⟨_,rfl⟩
 rw[← F9]at hk ⊢;obtain⟨s,hs⟩:∃ s,s=ss.getD k Shp.none:=⟨_,rfl⟩
 obtain⟨b,jg,_,_,d1⟩:=H5.out.uV hk hs;have Cm:Hid (aH ss s.fields=true):=by show _=_;rw[hs];exact iT HH.out.2.1 hk
 have HE:Hid (dA ss m=aR s.fields m):=by show _=_;unfold dA aK;rw[← F9,← hs];simp[hk]
 obtain⟨fs,ea⟩:∃ fs,fs=s.fields:=⟨_,rfl⟩
 rw[← ea]at jg d1 Cm HE;have pz:Hid (bW w1 b fs):=jg;have GN:=H5.out.lt;have hfl2:=jg.len;clear jg F9 hs ea;have Lb:=hid fun k=>Dg b fs k w1 pz.out;go_upto_region 5 with fail
 go_cut [46] (fun x wx=>x=.bool (t5 fs m)∧wx=w1)
 case first=>
  have HT:Hid (t5 fs m=(!aQ fs m.field||(!m.whn.toList.isEmpty&& !aQ fs m.whn)||(!m.frm.toList.isEmpty&& !aQ fs m.frm))):=rfl;obtain⟨pf,BT⟩:∃ x,x=aQ fs m.field:=⟨_,rfl⟩
  obtain⟨pw,Ck⟩:∃ x,x=aQ fs m.whn:=⟨_,rfl⟩
  obtain⟨pr,tn⟩:∃ x,x=aQ fs m.frm:=⟨_,rfl⟩
  have M6:Hid (Calls Tryz.prog 162 #[.slice (some ⟨b,0,none⟩) fs.length fs.length,.string m.field] w1 fun e w'=>e=.returned (.bool pf)∧w1=w'):=by rw[BT];exact Lb.out m.field
  have Mo:Hid (Calls Tryz.prog 162 #[.slice (some ⟨b,0,none⟩) fs.length fs.length,.string m.whn] w1 fun e w'=>e=.returned (.bool pw)∧w1=w'):=by rw[Ck];exact Lb.out m.whn
  have JD:Hid (Calls Tryz.prog 162 #[.slice (some ⟨b,0,none⟩) fs.length fs.length,.string m.frm] w1 fun e w'=>e=.returned (.bool pr)∧w1=w'):=by rw[tn];exact Lb.out m.frm
  rw[← BT,← Ck,← tn]at HT;clear Lb BT Ck tn;go_wp2_with fail
  refine M6.out.mono ?_;rintro e w' ⟨rfl,rfl⟩;cases pf
  ·go_wp2_with fail
   go_meet
   exact⟨by rw[HT.out];rfl,rfl⟩
  cases h2:m.whn.toList.isEmpty
  ·go_wp2_with fail
   refine Mo.out.mono ?_;rintro e w' ⟨rfl,rfl⟩;cases pw
   ·go_wp2_with fail
    go_meet
    exact⟨by rw[HT.out,h2];rfl,rfl⟩
   cases h5:m.frm.toList.isEmpty
   ·go_wp2_with fail
    refine JD.out.mono ?_;rintro e w' ⟨rfl,rfl⟩;go_wp2_with fail
    go_meet
    exact⟨by rw[HT.out,h2,h5];cases pr<;>rfl,rfl⟩
   ·go_wp2_with fail
    go_meet
    exact⟨by rw[HT.out,h2,h5];rfl,rfl⟩
  ·cases h5:m.frm.toList.isEmpty
   ·go_wp2_with fail
    refine JD.out.mono ?_;rintro e w' ⟨rfl,rfl⟩;go_wp2_with fail
    go_meet
    exact⟨by rw[HT.out,h2,h5];cases pr<;>rfl,rfl⟩
   ·go_wp2_with fail
    go_meet
    exact⟨by rw[HT.out,h2,h5];rfl,rfl⟩
 case rest=>
 obtain⟨rfl,wY⟩:=hcut;subst wY;rename World=>w1;cases ht5:t5 fs m
 case true=>
  have HR:Hid (dA ss m=false):=by show _=_;rw[HE.out];exact uN ht5
  go_wp2;go_ret;exact⟨Pl.ae HR.out.symm,cQ.out⟩
 have LP:Hid (t5 fs m=false):=ht5;clear ht5;go_upto_region 7 with fail
 go_cut [77] (fun x wx=>x=.bool (t7 m)∧wx=w1)
 case first=>
  have HT:Hid (t7 m=((m.whn.toList==m.field.toList)||(m.frm.toList==m.field.toList)||((m.whn.toList.isEmpty&& !m.is_.toList.isEmpty)||(m.put.toList.isEmpty==m.frm.toList.isEmpty)))):=rfl;cases q1:(m.whn.toList==m.field.toList)
  ·cases q2:(m.frm.toList==m.field.toList)
   ·cases h2:m.whn.toList.isEmpty
    ·cases h4:m.put.toList.isEmpty<;>cases h5:m.frm.toList.isEmpty
     all_goals
      go_wp2_with fail
      go_meet
      exact⟨by rw[HT.out,q1,q2,h2,h4,h5];rfl,rfl⟩
    ·cases h3:m.is_.toList.isEmpty
     ·go_wp2_with fail
      go_meet
      exact⟨by rw[HT.out,q1,q2,h2,h3];rfl,rfl⟩
     ·cases h4:m.put.toList.isEmpty<;>cases h5:m.frm.toList.isEmpty
      all_goals
       go_wp2_with fail
       go_meet
       exact⟨by rw[HT.out,q1,q2,h2,h3,h4,h5];rfl,rfl⟩
   ·go_wp2_with fail
    go_meet
    exact⟨by rw[HT.out,q1,q2];rfl,rfl⟩
  ·go_wp2_with fail
   go_meet
   exact⟨by rw[HT.out,q1];rfl,rfl⟩
 case rest=>
 obtain⟨rfl,wY⟩:=hcut;subst wY;rename World=>w1;cases ht7:t7 m
 case true=>
  have HR:Hid (dA ss m=false):=by show _=_;rw[HE.out];exact ui Cm.out LP.out ht7
  go_wp2;go_ret;exact⟨Pl.ae HR.out.symm,cQ.out⟩
 have B6:Hid (dA ss m=(m.put.toList.isEmpty||dC (fs.getD (nameAt fs m.field) Fld.none) m.put)):=by show _=_;rw[HE.out];exact uL LP.out ht7
 have eI:aQ fs m.field=true:=by have:=LP.out;unfold t5 at this;cases h1:aQ fs m.field;rw[h1]at this;simp at this;rfl
 have hq:=jv eI;clear ht7 eI HE;cases yS:m.put.toList.isEmpty
 ·obtain⟨q,tC⟩:∃ q,q=nameAt fs m.field:=⟨_,rfl⟩
  have HL:Hid (∀ W,Bel w1 W→Calls Tryz.prog 163 #[.slice (some ⟨b,0,none⟩) fs.length fs.length,.string m.field] W fun e w'=>e=.returned (.int .i64 (q:Nat))∧Bel W w'):=by
   intro W hW;refine(qN b fs m.field W (pz.out.later hW)).mono ?_;rintro e w' ⟨rfl,rfl⟩;rw[if_pos hq,← tC];exact⟨rfl,br⟩
  rw[← tC]at hq B6;obtain⟨f,hf⟩:∃ f,f=fs.getD q Fld.none:=⟨_,rfl⟩
  obtain⟨b2,pT,dP⟩:=pz.out.arg hq hf;have HR:Hid (dA ss m=dC f m.put):=by show _=_;rw[B6.out,yS,← hf];rfl
  have HX:Hid (∀ W,Bel w1 W→Calls Tryz.prog 120 #[.agg #[.string f.nm,.int .i64 f.kind,.int .i64 f.least,.int .i64 f.most,.slice (some ⟨b2,0,none⟩) f.words.length f.words.length,.string f.to,.int .i64 f.role,.bool f.must,.bool f.fixed,.string f.de,.string f.we],.string m.put] W fun e w'=>e=.returned (.bool (dA ss m))∧Bel W w'):=by
   intro W ml;rw[HR.out];exact mH f b2 m.put W HH.out.2.2.2.2.2.2.1 (pT.later ml)
  have iN:=hid (And.intro dP pz.out.lt);clear pT dP hf tC B6 HR m0 m2 m3 m5;have HMw:Hid (∀ W,Bel w1 W→W.cell? ⟨w.heap.size,4,none⟩=some (.string m.put)∧W.cell? ⟨w.heap.size,1,none⟩=some (.string m.field)∧w.heap.size<W.heap.size∧j5 W b (q*11) f (.slice (some ⟨b2,0,none⟩) f.words.length f.words.length)∧b<W.heap.size):=fun W hW=>⟨(hW.cell (p:=⟨w.heap.size,4,none⟩) lH.out.2).trans lH.out.1.c4,(hW.cell (p:=⟨w.heap.size,1,none⟩) lH.out.2).trans lH.out.1.c1,lo lH.out.2 hW.size,iN.out.1.later hW iN.out.2,lo iN.out.2 hW.size⟩
  have c0:=iN.out.1.c0;have c1:=iN.out.1.c1;have c2:=iN.out.1.c2;have c3:=iN.out.1.c3;have c4:=iN.out.1.c4;have c5:=iN.out.1.c5;have c6:=iN.out.1.c6;have c7:=iN.out.1.c7;have c8:=iN.out.1.c8;have c9:=iN.out.1.c9;have c10:=iN.out.1.c10;have Cb:=iN.out.2;go_wp2_with fail
  go_region_with (first
   |(go_at_call 163;refine(HL.out _ ?_).mono ?_;(repeat(first|exact br|refine Below.drew ?_));rintro e w3 ⟨rfl,aO⟩;obtain⟨g4,g1,gz,⟨d0,d1,d2,d3,d4,d5,d6,d7,d8,d9,d10,_,_⟩,gb⟩:=HMw.out w3 (aa (by repeat(first|exact br|refine Below.drew ?_)) aO))
   |(go_at_call 120;refine(HX.out _ ?_).mono ?_;(first|exact aa (by repeat(first|exact br|refine Below.drew ?_)) aO|exact Below.drew (aa (by repeat(first|exact br|refine Below.drew ?_)) aO));rintro e w4 ⟨rfl,cA⟩))
  all_goals
   go_wp2;go_ret;refine⟨rfl, ?_⟩;have eX:Bel w w3:=by repeat(first|exact aa cQ.out aO|exact aa cQ.out.drew aO|exact aa cQ.out.drew.drew aO)
   repeat(first|exact aa eX cA|exact aa eX.drew cA|refine Below.drew ?_)
 ·have HR:Hid (dA ss m=true):=by show _=_;rw[B6.out,yS];rfl
  clear B6;go_wp2_with fail
  go_region
  all_goals
   go_wp2;go_ret;exact⟨Pl.ae HR.out.symm,by repeat(first|exact cQ.out|refine Below.drew ?_)⟩
end Go.Proofs.YtbiokpmdghmgcaaGreat
