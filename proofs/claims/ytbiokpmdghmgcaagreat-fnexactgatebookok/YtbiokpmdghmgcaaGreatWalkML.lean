import Derived.Deep.DeepCutAuto
import Derived.Deep.RegionWith
import Derived.Test.YtbiokpmdghmgcaaGreatMemM
import Derived.Test.YtbiokpmdghmgcaaGreatWalkX
namespace Go.Proofs.YtbiokpmdghmgcaaGreat
set_option maxRecDepth 8000
set_option maxHeartbeats 40000000
open Go.RowKit Go.Deep
def aN (fs:List Fld) (k:ByteArray):Bool:=decide (nameAt fs k<fs.length)&& !decide ((fs.getD (nameAt fs k) Fld.none).kind=4)
def eP (fs:List Fld) (f r:ByteArray):Bool:=Pl.aE r||(!(r.toList==f.toList)&&aN fs r)
def mf (m:Mnd):Bool:=(Pl.aE m.whn&& !Pl.aE m.is_)||(Pl.aE m.put==Pl.aE m.frm)
def aL (fs:List Fld) (m:Mnd):Bool:=aN fs m.field&& !mf m&&eP fs m.field m.whn&&eP fs m.field m.frm&&(Pl.aE m.put||dA (fs.getD (nameAt fs m.field) Fld.none) m.put)
theorem ot (B:Nat) (fs:List Fld) (k:ByteArray) (w:World) (h:bW w B fs):
  Calls Tryz.prog 172 #[.slice (some ⟨B,0,none⟩) fs.length fs.length,.string k] w fun e w'=>(∃ r:Int,e=.returned (.int .i64 r)∧r=(if aN fs k=true then (nameAt fs k:Int) else -1))∧Bel w w':=by
 have HH:Hid (bW w B fs):=h;have hl:=h.len;obtain⟨R,hR⟩:∃ R:Int,R=(if aN fs k=true then (nameAt fs k:Int) else -1):=⟨_,rfl⟩
 rw[← hR];have HR:Hid (R=(if aN fs k=true then (nameAt fs k:Int) else -1)):=hR;clear h hR;go_enter Tryz.func172,Tryz.ntmps172
 go_wp2_with fail
 refine(fieldPlace B fs k w HH.out).mono ?_;rintro e w2 ⟨⟨r,rfl,hr⟩,aA⟩;by_cases hq:nameAt fs k<fs.length
 ·rw[if_pos hq]at hr;subst hr;obtain⟨q,sS⟩:∃ q,q=nameAt fs k:=⟨_,rfl⟩
  obtain⟨f,hf⟩:∃ f,f=fs.getD q Fld.none:=⟨_,rfl⟩
  rw[← sS]at hq ⊢;obtain⟨b,_,dP⟩:=(HH.out.later aA).arg hq hf;have c1:=dP.c1;have hB:=(HH.out.later aA).lt;have HF:Hid (aN fs k= !decide (f.kind=4)):=by show aN fs k=_;unfold aN;rw[← sS,← hf];simp[hq]
  have HQ:Hid (q=nameAt fs k):=sS;clear dP hf sS;by_cases h4:f.kind=4
  ·have HP:Hid (aN fs k=false):=by show aN fs k=false;rw[HF.out];simp[h4]
   go_wp2;go_ret;exact⟨⟨_,rfl,by rw[HR.out,HP.out];rfl⟩,aA⟩
  ·have HP:Hid (aN fs k=true):=by show aN fs k=true;rw[HF.out];simp[h4]
   go_wp2;go_ret;exact⟨⟨_,rfl,by rw[HR.out,HP.out,if_pos rfl,HQ.out]⟩,aA⟩
 ·rw[if_neg hq]at hr;subst hr;have HP:Hid (aN fs k=false):=by show aN fs k=false;unfold aN;simp[hq]
  go_wp2;go_ret;exact⟨⟨_,rfl,by rw[HR.out,HP.out];rfl⟩,aA⟩
theorem jk {fs:List Fld} {k:ByteArray} (h:aN fs k=true):nameAt fs k<fs.length:=by
 unfold aN at h;have:=(Bool.and_eq_true _ _).mp h;exact of_decide_eq_true this.1
theorem l8 (f:Fld) (b:Nat) (v:ByteArray) (w:World) (hv:v.size≤maxLen) (h:eC w b f):
  Calls Tryz.prog 173 #[.agg #[.string f.nm,.int .i64 f.kind,.int .i64 f.least,.int .i64 f.most,.slice (some ⟨b,0,none⟩) f.words.length f.words.length,.string f.to,.int .i64 f.role,.bool f.must,.bool f.fixed,.string f.de,.string f.we],.string v] w
   fun e w'=>e=.returned (.bool (dA f v))∧Bel w w':=
 lE f.nm f.kind f.least f.most b 0 _ f.to f.role f.must f.fixed f.de f.we v f.words w hv h.lt (by have:=h.small;unfold Fld.small at this;unfold maxLen;omega) h.cells
theorem BK (B:Nat) (fs:List Fld) (m:Mnd) (w:World) (h:bW w B fs) (hm:m.sized):
  Calls Tryz.prog 133 #[.slice (some ⟨B,0,none⟩) fs.length fs.length,.agg #[.string m.kind,.string m.field,.string m.whn,.string m.is_,.string m.put,.string m.frm]] w fun e w'=>e=.returned (.bool (aL fs m))∧Bel w w':=by
 have HH:=hid (And.intro h hm);have hl:=h.len;clear h hm;have fT:Hid (Bel w (w.alloc (.cells #[.string m.kind,.string m.field,.string m.whn,.string m.is_,.string m.put,.string m.frm] 136))):=ab br _;have JN:Hid (fR (w.alloc (.cells #[.string m.kind,.string m.field,.string m.whn,.string m.is_,.string m.put,.string m.frm] 136)) w.heap.size 0 m∧ai (w.alloc (.cells #[.string m.kind,.string m.field,.string m.whn,.string m.is_,.string m.put,.string m.frm] 136)) w.heap.size 136 6):=⟨⟨by simp,by simp,by simp,by simp,by simp,by simp,HH.out.2⟩,ai.alloc w _ 136 6 rfl⟩
 go_enter Tryz.func133,Tryz.ntmps133
 go_wp2_with fail
 refine(ot B fs m.field _ (HH.out.1.later fT.out)).mono ?_;rintro e w1 ⟨⟨r,rfl,hr⟩,bj⟩;have cN:=hid (aa fT.out bj);have lv:=hid (And.intro (JN.out.1.later bj JN.out.2.lt) (lo JN.out.2.lt bj.size));have jq:=lv.out.2;have m1:=lv.out.1.c1;have m2:=lv.out.1.c2;have m3:=lv.out.1.c3;have m4:=lv.out.1.c4;have m5:=lv.out.1.c5;clear bj fT JN;cases eI:aN fs m.field
 ·have HR:Hid (aL fs m=false):=by show aL fs m=false;unfold aL;rw[eI];rfl
  rw[eI,if_neg (by decide)]at hr;subst hr;go_wp2;go_ret;exact⟨Pl.ae HR.out.symm,cN.out⟩
 rw[eI,if_pos rfl]at hr;subst hr;have hq:=jk eI;obtain⟨q,sS⟩:∃ q,q=nameAt fs m.field:=⟨_,rfl⟩
 rw[← sS]at hq ⊢;have HQ:=hid (And.intro sS eI);clear sS eI;go_upto_region 2 with fail
 go_cut [32] (fun s wx=>s=.bool (mf m)∧wx=w1)
 case first=>
  have lY:Hid (mf m=((m.whn.toList.isEmpty&& !m.is_.toList.isEmpty)||(m.put.toList.isEmpty==m.frm.toList.isEmpty))):=rfl;cases h2:m.whn.toList.isEmpty<;>cases h3:m.is_.toList.isEmpty<;>cases h4:m.put.toList.isEmpty<;>cases h5:m.frm.toList.isEmpty
  all_goals
   go_wp2_with fail
   go_meet
   exact⟨by rw[lY.out,h2,h3,h4,h5];rfl,rfl⟩
 case rest=>
 obtain⟨rfl,vG⟩:=hcut;subst vG;rename World=>w1;cases E9:mf m
 case true=>
  have HR:Hid (aL fs m=false):=by show aL fs m=false;unfold aL;rw[E9];simp
  go_wp2;go_ret;exact⟨Pl.ae HR.out.symm,cN.out⟩
 have HBD:Hid (mf m=false):=E9;clear E9;go_wp2;obtain⟨wl,J1⟩:∃ wl,wl=w1.alloc (.cells #[.string m.whn,.string m.frm] 9):=⟨_,rfl⟩
 have I3:Hid (w1.heap.size<wl.heap.size∧wl.cell? ⟨w1.heap.size,0,none⟩=some (.string m.whn)∧wl.cell? ⟨w1.heap.size,1,none⟩=some (.string m.frm)):=by
  show _∧_∧_;rw[J1];exact⟨by simp,by simp,by simp⟩
 have CS:Bel w1 wl:=by rw[J1];exact ab br _
 have Hm:=hid (aa cN.out CS);have H7:=hid (And.intro (lv.out.1.later CS lv.out.2) (lo lv.out.2 CS.size));rw[← J1];clear J1 CS m1 m2 m3 m4 m5 lv;go_loopw [39] (fun i wr=>∃ k:Nat,k≤2∧i=.int .i64 k∧Bel wl wr∧(1≤k→eP fs m.field m.whn=true)∧(2≤k→eP fs m.field m.frm=true)) (fun i _=>2 - (intOf i).toNat)
 case atStart=>exact⟨0,by omega,rfl,br,fun h=>by omega,fun h=>by omega⟩
 case round=>
  obtain⟨k,hk,rfl,hW,KC,DH⟩:=hrel;have JI:Hid (Bel wl wr):=hW;have Bg:=hid (aa Hm.out hW);have JQ:=hid (And.intro KC DH);have t0:=(hW.cell (p:=⟨w1.heap.size,0,none⟩) I3.out.1).trans I3.out.2.1;have t1:=(hW.cell (p:=⟨w1.heap.size,1,none⟩) I3.out.1).trans I3.out.2.2;have hzl:=lo I3.out.1 hW.size;have I9:=lo H7.out.2 hW.size;have n1:=(H7.out.1.later hW H7.out.2).c1;clear KC DH;by_cases k0:k=0
  ·subst k0;have RX:Hid (eP fs m.field m.whn=(m.whn.toList.isEmpty||(!(m.whn.toList==m.field.toList)&&aN fs m.whn))):=rfl;cases he:m.whn.toList.isEmpty
   ·cases hq2:(m.whn.toList==m.field.toList)
    ·have HX:=hid (ot B fs m.whn wr (HH.out.1.later Bg.out));go_wp2_with fail
     refine HX.out.mono ?_;rintro e w3 ⟨⟨r,rfl,hr⟩,aQ⟩;have gq:=hid (aa JI.out aQ);clear aQ HX t0 t1 n1 I9 hzl;cases eI:aN fs m.whn
     ·rw[eI,if_neg (by decide)]at hr;subst hr;have HR:Hid (aL fs m=false):=by show aL fs m=false;unfold aL;rw[RX.out,he,hq2,eI];simp
      go_wp2;go_ret;exact⟨Pl.ae HR.out.symm,aa Hm.out gq.out⟩
     ·rw[eI,if_pos rfl]at hr;subst hr;have HN:Hid (eP fs m.field m.whn=true):=by show eP fs m.field m.whn=true;rw[RX.out,he,hq2,eI];rfl
      go_wp2;go_roundw
      case rel=>exact⟨0+1,by omega,by go_num,gq.out,fun _=>HN.out,fun h=>by omega⟩
      case measure=>simp[intOf]
    ·have HR:Hid (aL fs m=false):=by show aL fs m=false;unfold aL;rw[RX.out,he,hq2];simp
     go_wp2;go_ret;exact⟨Pl.ae HR.out.symm,Bg.out⟩
   ·have HN:Hid (eP fs m.field m.whn=true):=by show eP fs m.field m.whn=true;rw[RX.out,he];rfl
    go_wp2;go_roundw
    case rel=>exact⟨0+1,by omega,by go_num,JI.out,fun _=>HN.out,fun h=>by omega⟩
    case measure=>simp[intOf]
  by_cases k1:k=1
  ·subst k1;have RX:Hid (eP fs m.field m.frm=(m.frm.toList.isEmpty||(!(m.frm.toList==m.field.toList)&&aN fs m.frm))):=rfl;cases he:m.frm.toList.isEmpty
   ·cases hq2:(m.frm.toList==m.field.toList)
    ·have HX:=hid (ot B fs m.frm wr (HH.out.1.later Bg.out));go_wp2_with fail
     refine HX.out.mono ?_;rintro e w3 ⟨⟨r,rfl,hr⟩,aQ⟩;have gq:=hid (aa JI.out aQ);clear aQ HX t0 t1 n1 I9 hzl;cases eI:aN fs m.frm
     ·rw[eI,if_neg (by decide)]at hr;subst hr;have HR:Hid (aL fs m=false):=by show aL fs m=false;unfold aL;rw[RX.out,he,hq2,eI];simp
      go_wp2;go_ret;exact⟨Pl.ae HR.out.symm,aa Hm.out gq.out⟩
     ·rw[eI,if_pos rfl]at hr;subst hr;have HN:Hid (eP fs m.field m.frm=true):=by show eP fs m.field m.frm=true;rw[RX.out,he,hq2,eI];rfl
      go_wp2;go_roundw
      case rel=>exact⟨1+1,by omega,by go_num,gq.out,fun _=>JQ.out.1 (by omega),fun _=>HN.out⟩
      case measure=>simp[intOf]
    ·have HR:Hid (aL fs m=false):=by show aL fs m=false;unfold aL;rw[RX.out,he,hq2];simp
     go_wp2;go_ret;exact⟨Pl.ae HR.out.symm,Bg.out⟩
   ·have HN:Hid (eP fs m.field m.frm=true):=by show eP fs m.field m.frm=true;rw[RX.out,he];rfl
    go_wp2;go_roundw
    case rel=>exact⟨1+1,by omega,by go_num,JI.out,fun _=>JQ.out.1 (by omega),fun _=>HN.out⟩
    case measure=>simp[intOf]
  obtain rfl:k=2:=by omega
  have n4:=(H7.out.1.later hW H7.out.2).c4;have HE:Hid (aL fs m=(m.put.toList.isEmpty||dA (fs.getD q Fld.none) m.put)):=by
   show aL fs m=_;unfold aL;rw[JQ.out.1 (by omega),JQ.out.2 (by omega),HQ.out.2,HBD.out,← HQ.out.1];simp[Pl.aE]
  clear t0 t1 n1;cases xY:m.put.toList.isEmpty
  ·obtain⟨f,hf⟩:∃ f,f=fs.getD q Fld.none:=⟨_,rfl⟩
   obtain⟨b,pz,dP⟩:=(HH.out.1.later Bg.out).arg hq hf;have FX:Hid (eC wr b f):=pz;have HR:Hid (aL fs m=dA f m.put):=by show aL fs m=_;rw[HE.out,xY,← hf];rfl
   have FW:=(HH.out.1.later Bg.out).lt;obtain⟨c0,c1,c2,c3,c4,c5,c6,c7,c8,c9,c10,_,_⟩:=dP;clear pz hf HE;have HX:Hid (∀ W,Bel wr W→Calls Tryz.prog 173 #[.agg #[.string f.nm,.int .i64 f.kind,.int .i64 f.least,.int .i64 f.most,.slice (some ⟨b,0,none⟩) f.words.length f.words.length,.string f.to,.int .i64 f.role,.bool f.must,.bool f.fixed,.string f.de,.string f.we],.string m.put] W fun e w'=>e=.returned (.bool (aL fs m))∧Bel W w'):=by
    intro W lX;rw[HR.out];exact l8 f b m.put W HH.out.2.2.2.2.2.1 (FX.out.later lX)
   go_wp2_with fail
   go_region_with (go_at_call 173;refine(HX.out _ ?_).mono ?_;(repeat(first|exact br|refine Below.drew ?_));rintro e w3 ⟨rfl,aQ⟩)
   all_goals
    go_wp2;go_ret;exact⟨rfl,by repeat(first|exact aa Bg.out aQ|exact aa Bg.out.drew aQ|exact aa Bg.out.drew.drew aQ|refine Below.drew ?_)⟩
  ·have HR:Hid (aL fs m=true):=by show aL fs m=_;rw[HE.out,xY];rfl
   clear HE;go_wp2_with fail
   go_region
   all_goals
    go_wp2;go_ret;exact⟨Pl.ae HR.out.symm,by repeat(first|exact Bg.out|refine Below.drew ?_)⟩
set_option maxRecDepth 8000
set_option maxHeartbeats 40000000
open Go.RowKit Go.Deep
theorem qE (B:Nat) (fs:List Fld) (k:ByteArray) (w:World) (h:bW w B fs):
  Calls Tryz.prog 163 #[.slice (some ⟨B,0,none⟩) fs.length fs.length,.string k] w fun e w'=>e=.returned (.int .i64 (if nameAt fs k<fs.length then (nameAt fs k:Int) else -1))∧w=w':=by
 have hl:=h.len;have HH:=hid h;obtain⟨R,hR⟩:∃ R:Int,R=(if nameAt fs k<fs.length then (nameAt fs k:Int) else -1):=⟨_,rfl⟩
 rw[← hR];have HR:=hid hR;have hB:=h.lt;clear h hR;go_enter Tryz.func163,Tryz.ntmps163
 go_wp2;go_loop [5] (fun i=>∃ q:Nat,q≤fs.length∧i=.int .i64 q∧q≤nameAt fs k) (fun i=>fs.length - (intOf i).toNat)
 case atStart=>exact⟨0,nz,rfl,nz⟩
 case round=>
  obtain⟨q,hq,rfl,iH⟩:=hrel;have HN:=hid iH;clear iH;by_cases aw:q<fs.length
  ·obtain⟨f,fG⟩:∃ f,f=fs.getD q Fld.none:=⟨_,rfl⟩
   obtain⟨b,_,hf⟩:=HH.out.arg aw fG;have c0:=hf.c0;clear hf;cases ht:(f.nm.toList==k.toList)
   ·have HM:=hid (iS fs k q aw HN.out (by rw[← fG];exact ht));clear fG;go_wp2;go_round
    case rel=>exact⟨q+1,by omega,by go_num,HM.out⟩
    case measure=>simp[intOf];omega
   ·have HM:=hid (jG fs k q aw HN.out (by rw[← fG];exact ht));clear fG;go_wp2;go_ret;exact⟨Pl.aS (by rw[HR.out,HM.out,if_pos aw]),rfl⟩
  ·go_wp2;go_ret;exact⟨Pl.aS (by rw[HR.out,if_neg (by have:=HN.out;omega)]),rfl⟩
theorem B2 (B:Nat) (fs:List Fld) (k:ByteArray) (w:World) (h:bW w B fs):
  Calls Tryz.prog 162 #[.slice (some ⟨B,0,none⟩) fs.length fs.length,.string k] w fun e w'=>e=.returned (.bool (aN fs k))∧w=w':=by
 have HH:=hid h;have hl:=h.len;obtain⟨R,hR⟩:∃ R,R=aN fs k:=⟨_,rfl⟩
 rw[← hR];have HR:=hid hR;have hB:=h.lt;clear h hR;go_enter Tryz.func162,Tryz.ntmps162
 go_wp2_with fail
 refine(qE B fs k w HH.out).mono ?_;rintro e w2 ⟨rfl,rfl⟩;by_cases hq:nameAt fs k<fs.length
 ·rw[if_pos hq];obtain⟨q,sS⟩:∃ q,q=nameAt fs k:=⟨_,rfl⟩
  obtain⟨f,hf⟩:∃ f,f=fs.getD q Fld.none:=⟨_,rfl⟩
  rw[← sS]at hq ⊢;obtain⟨b,_,dP⟩:=HH.out.arg hq hf;have c1:=dP.c1;have HF:Hid (R= !decide (f.kind=4)):=by show R=_;rw[HR.out];unfold aN;rw[← sS,← hf];simp[hq]
  clear dP hf sS;by_cases h4:f.kind=4
  ·have HP:Hid (R=false):=by show R=false;rw[HF.out];simp[h4]
   go_wp2;go_ret;exact⟨Pl.ae HP.out.symm,rfl⟩
  ·have HP:Hid (R=true):=by show R=true;rw[HF.out];simp[h4]
   go_wp2;go_ret;exact⟨Pl.ae (by rw[HP.out];simp[h4]),rfl⟩
 ·rw[if_neg hq];have HP:Hid (R=false):=by show R=false;rw[HR.out];unfold aN;simp[hq]
  go_wp2;go_ret;exact⟨Pl.ae HP.out.symm,rfl⟩
theorem mo (f:Fld) (b:Nat) (v:ByteArray) (w:World) (hv:v.size≤maxLen) (h:eC w b f):
  Calls Tryz.prog 120 #[.agg #[.string f.nm,.int .i64 f.kind,.int .i64 f.least,.int .i64 f.most,.slice (some ⟨b,0,none⟩) f.words.length f.words.length,.string f.to,.int .i64 f.role,.bool f.must,.bool f.fixed,.string f.de,.string f.we],.string v] w
   fun e w'=>e=.returned (.bool (dA f v))∧Bel w w':=
 eL f.nm f.kind f.least f.most b 0 _ f.to f.role f.must f.fixed f.de f.we v f.words w hv h.lt (by have:=h.small;unfold Fld.small at this;unfold maxLen;omega) h.cells
def fe (w:World) (v:Value) (l:List ByteArray):Prop:=
 ∃ g c,v=.slice (some ⟨g,0,none⟩) l.length c∧g<w.heap.size∧l.length≤1048576∧∀ i,i<l.length→w.cell? ⟨g,i,none⟩=some (.string (l.getD i ByteArray.empty))
theorem fe.later {w w':World} {v:Value} {l:List ByteArray} (h:fe w v l) (hb:Bel w w'):fe w' v l:=by
 obtain⟨g,c,rfl,h1,h2,h3⟩:=h;exact⟨g,c,rfl,lo h1 hb.size,h2,fun i hi=>(hb.cell (p:=⟨g,i,none⟩) h1).trans (h3 i hi)⟩
theorem D9 (v:Value) (l:List ByteArray) (s:ByteArray) (w:World) (h:fe w v l):
  Calls Tryz.prog 164 #[v,.string s] w fun e w'=>e=.returned (.bool (Pl.has l s))∧w=w':=by
 obtain⟨g,c,rfl,_,h2,h3⟩:=h;exact pW g 0 c l s w (by unfold maxLen;omega) (fun i hi=>by rw[Nat.zero_add];exact h3 i hi)
def pA (row:List ByteArray) (k:ByteArray):Bool:=Pl.aE k||Pl.has row k
def gY (K f:ByteArray) (row:List ByteArray) (m:Mnd):Bool:= !(m.kind.toList==K.toList&&m.field.toList==f.toList)||(pA row m.whn&&pA row m.frm)
def iv (ms:List Mnd) (K f:ByteArray) (row:List ByteArray):Bool:=(List.range ms.length).all fun i=>gY K f row (ms.getD i Mnd.none)
def jX (ms:List Mnd) (K f:ByteArray) (row:List ByteArray) (k:Nat):Bool:=(List.range k).all fun i=>gY K f row (ms.getD i Mnd.none)
theorem vF (mb:Nat) (ms:List Mnd) (K f:ByteArray) (a:Option Addr) (n c:Nat) (row:List ByteArray) (w:World) (h:dy w mb ms) (hr:fe w (.slice a n c) row):
  Calls Tryz.prog 165 #[.slice (some ⟨mb,0,none⟩) ms.length ms.length,.string K,.string f,.slice a n c] w fun e w'=>e=.returned (.bool (iv ms K f row))∧Bel w w':=by
 have hl:=h.len;have HH:=hid (And.intro h hr);have qk:=h.lt;clear h hr;go_enter Tryz.func165,Tryz.ntmps165
 go_wp2;go_loopw [9] (fun i wr=>∃ k:Nat,k≤ms.length∧i=.int .i64 k∧jX ms K f row k=true∧Bel w wr) (fun i _=>ms.length - (intOf i).toNat)
 case atStart=>exact⟨0,nz,rfl,rfl,br⟩
 case round=>
  obtain⟨k,hk,rfl,av,hW⟩:=hrel;have HA:=hid av;have HW:=hid hW;clear av;by_cases aw:k<ms.length
  ·have iI:=(HH.out.1.later hW).at_ k aw;obtain⟨m,gT⟩:∃ m,m=ms.getD k Mnd.none:=⟨_,rfl⟩
   rw[← gT]at iI;have hmb2:=lo qk hW.size;obtain⟨c0,c1,c2,c3,c4,c5,_⟩:=iI;have HT:Hid (gY K f row (ms.getD k Mnd.none)=(!(m.kind.toList==K.toList&&m.field.toList==f.toList)||((m.whn.toList.isEmpty||Pl.has row m.whn)&&(m.frm.toList.isEmpty||Pl.has row m.frm)))):=by rw[← gT];rfl
   have HS:Hid (gY K f row (ms.getD k Mnd.none)=true→jX ms K f row (k+1)=true):=by
    intro h1;show jX ms K f row (k+1)=true;unfold jX;rw[Pl.g7,h1];have:=HA.out;unfold jX at this;rw[this];rfl
   have HZ:Hid (gY K f row (ms.getD k Mnd.none)=false→iv ms K f row=false):=by
    intro h1;exact Pl.gd _ _ k aw h1
   have HC:Hid (∀ s W,Bel wr W→Calls Tryz.prog 164 #[.slice a n c,.string s] W fun e w'=>e=.returned (.bool (Pl.has row s))∧W=w'):=fun s W lX=>D9 _ row s W (HH.out.2.later (aa HW.out lX));have cJ:Bel wr (wr.alloc (.cells #[.string m.kind,.string m.field,.string m.whn,.string m.is_,.string m.put,.string m.frm] 136)):=ab br _;have qe:=hid cJ;clear gT hW cJ;cases q0:(m.kind.toList==K.toList)
   ·have HR:=hid (HS.out (by rw[HT.out,q0];rfl));go_wp2;go_roundw
    case rel=>exact⟨k+1,by omega,by go_num,HR.out,aa HW.out qe.out⟩
    case measure=>simp[intOf];omega
   cases q1:(m.field.toList==f.toList)
   ·have HR:=hid (HS.out (by rw[HT.out,q0,q1];rfl));go_wp2;go_roundw
    case rel=>exact⟨k+1,by omega,by go_num,HR.out,aa HW.out qe.out⟩
    case measure=>simp[intOf];omega
   obtain⟨hw,Lc⟩:∃ hw,hw=Pl.has row m.whn:=⟨_,rfl⟩
   obtain⟨hf,DB⟩:∃ hf,hf=Pl.has row m.frm:=⟨_,rfl⟩
   have Gz:Hid (∀ W,Bel wr W→Calls Tryz.prog 164 #[.slice a n c,.string m.whn] W fun e w'=>e=.returned (.bool hw)∧W=w'):=by rw[Lc];exact fun W lX=>HC.out m.whn W lX
   have CE:Hid (∀ W,Bel wr W→Calls Tryz.prog 164 #[.slice a n c,.string m.frm] W fun e w'=>e=.returned (.bool hf)∧W=w'):=by rw[DB];exact fun W lX=>HC.out m.frm W lX
   have uW:Hid (gY K f row (ms.getD k Mnd.none)=((m.whn.toList.isEmpty||hw)&&(m.frm.toList.isEmpty||hf))):=by show gY K f row _=_;rw[HT.out,q0,q1,Lc,DB];rfl
   clear HT HC Lc DB;cases e2:m.whn.toList.isEmpty
   ·cases e5:m.frm.toList.isEmpty
    ·go_wp2_with fail
     refine(Gz.out _ qe.out).mono ?_;rintro e w' ⟨rfl,rfl⟩;cases hw
     ·have HR:=hid (HZ.out (by rw[uW.out,e2,e5];simp));go_wp2;go_ret;exact⟨Pl.ae HR.out.symm,aa HW.out qe.out⟩
     ·go_wp2_with fail
      refine(CE.out _ qe.out).mono ?_;rintro e w' ⟨rfl,rfl⟩;cases hf
      ·have HR:=hid (HZ.out (by rw[uW.out,e2,e5];simp));go_wp2;go_ret;exact⟨Pl.ae HR.out.symm,aa HW.out qe.out⟩
      ·have HR:=hid (HS.out (by rw[uW.out,e2,e5];rfl));go_wp2;go_roundw
       case rel=>exact⟨k+1,by omega,by go_num,HR.out,aa HW.out qe.out⟩
       case measure=>simp[intOf];omega
    ·go_wp2_with fail
     refine(Gz.out _ qe.out).mono ?_;rintro e w' ⟨rfl,rfl⟩;cases hw
     ·have HR:=hid (HZ.out (by rw[uW.out,e2,e5];simp));go_wp2;go_ret;exact⟨Pl.ae HR.out.symm,aa HW.out qe.out⟩
     ·have HR:=hid (HS.out (by rw[uW.out,e2,e5];rfl));go_wp2;go_roundw
      case rel=>exact⟨k+1,by omega,by go_num,HR.out,aa HW.out qe.out⟩
      case measure=>simp[intOf];omega
   ·cases e5:m.frm.toList.isEmpty
    ·go_wp2_with fail
     refine(CE.out _ qe.out).mono ?_;rintro e w' ⟨rfl,rfl⟩;cases hf
     ·have HR:=hid (HZ.out (by rw[uW.out,e2,e5];simp));go_wp2;go_ret;exact⟨Pl.ae HR.out.symm,aa HW.out qe.out⟩
     ·have HR:=hid (HS.out (by rw[uW.out,e2,e5];rfl));go_wp2;go_roundw
      case rel=>exact⟨k+1,by omega,by go_num,HR.out,aa HW.out qe.out⟩
      case measure=>simp[intOf];omega
    ·have HR:=hid (HS.out (by rw[uW.out,e2,e5];rfl));go_wp2;go_roundw
     case rel=>exact⟨k+1,by omega,by go_num,HR.out,aa HW.out qe.out⟩
     case measure=>simp[intOf];omega
  ·have HR:Hid (iv ms K f row=true):=by have e:k=ms.length:=(by omega);have:=HA.out;rw[e]at this;exact this
   go_wp2;go_ret;exact⟨Pl.ae HR.out.symm,HW.out⟩
set_option maxRecDepth 8000
set_option maxHeartbeats 40000000
open Go.RowKit Go.Deep
def bN (ss:List Shp) (m:Mnd):Bool:=aJ ss m.kind&&aL (ss.getD (aB ss m.kind) Shp.none).fields m
theorem lh {ss:List Shp} (h:aM ss=true) {i:Nat} (hi:i<ss.length):dH ss i=true:=by
 unfold aM fK at h;have:=((Bool.and_eq_true _ _).mp h).2;rw[List.all_eq_true]at this;exact this i (List.mem_range.2 hi)
theorem iQ {ss:List Shp} (h:aM ss=true) {i:Nat} (hi:i<ss.length):aG ss (ss.getD i Shp.none).fields=true:=by
 have:=lh h hi;unfold dH at this;exact((Bool.and_eq_true _ _).mp this).2
theorem nH {ss:List Shp} {fs:List Fld} (h:aG ss fs=true) {i:Nat} (hi:i<fs.length):fieldAt ss fs i=true:=by
 unfold aG fk at h;have:=((Bool.and_eq_true _ _).mp h).2;rw[List.all_eq_true]at this;exact this i (List.mem_range.2 hi)
theorem jF {ss:List Shp} {fs:List Fld} (h:aG ss fs=true):fs.length≤6:=by
 unfold aG at h;exact of_decide_eq_true ((Bool.and_eq_true _ _).mp h).1
theorem Cz {ss:List Shp} {fs:List Fld} (h:aG ss fs=true) {i:Nat} (hi:i<fs.length):Pl.aq (fs.getD i Fld.none).nm=true:=by
 have:=nH h hi;unfold fieldAt at this;exact((Bool.and_eq_true _ _).mp ((Bool.and_eq_true _ _).mp this).1).1
theorem ti {s:ByteArray} (h:Pl.aq s=true):s.toList.isEmpty=false:=by
 cases he:s.toList.isEmpty
 ·rfl
 ·exfalso;have hz:¬ 1≤s.size:=by
   intro h1;have:=Pl.fI s h1;rw[he]at this;cases this
  unfold Pl.aq at h;simp at h;omega
theorem mr {fs:List Fld} {k:ByteArray} (h:nameAt fs k<fs.length):((fs.getD (nameAt fs k) Fld.none).nm.toList==k.toList)=true:=by
 have e:fs.getD (nameAt fs k) Fld.none=fs[nameAt fs k]:=by simp[h]
 rw[e];exact List.findIdx_getElem (xs:=fs) (p:=fun f:Fld=>f.nm.toList==k.toList) (w:=h)
theorem wy {ss:List Shp} {fs:List Fld} (h:aG ss fs=true) {k:ByteArray} (hk:aN fs k=true):k.toList.isEmpty=false:=by
 have hl:=jk hk;have h1:=mr hl;have h2:=ti (Cz h hl);rw[beq_iff_eq]at h1;rw[h1]at h2;exact h2
def t5 (fs:List Fld) (m:Mnd):Bool:= !aN fs m.field||(!m.whn.toList.isEmpty&& !aN fs m.whn)||(!m.frm.toList.isEmpty&& !aN fs m.frm)
def t7 (m:Mnd):Bool:=(m.whn.toList==m.field.toList)||(m.frm.toList==m.field.toList)||mf m
theorem tv {fs:List Fld} {m:Mnd} (h:t5 fs m=true):aL fs m=false:=by
 unfold t5 at h;unfold aL eP Pl.aE;cases h1:aN fs m.field
 ·rfl
 rw[h1]at h;cases h2:m.whn.toList.isEmpty<;>cases h3:m.frm.toList.isEmpty<;>cases h4:aN fs m.whn<;>cases h5:aN fs m.frm<;>rw[h2,h3,h4,h5]at h<;>simp at h ⊢
theorem tS {ss:List Shp} {fs:List Fld} {m:Mnd} (hf:aG ss fs=true) (h5:t5 fs m=false) (h:t7 m=true):aL fs m=false:=by
 have hp:aN fs m.field=true:=by unfold t5 at h5;cases h1:aN fs m.field;rw[h1]at h5;simp at h5;rfl
 have I7:=wy hf hp;unfold t7 at h;unfold aL eP Pl.aE;have ew:(m.whn.toList==m.field.toList)=true→m.whn.toList.isEmpty=false:=fun e=>by rw[beq_iff_eq]at e;rw[e];exact I7
 have er:(m.frm.toList==m.field.toList)=true→m.frm.toList.isEmpty=false:=fun e=>by rw[beq_iff_eq]at e;rw[e];exact I7
 cases h1:(m.whn.toList==m.field.toList)
 ·cases h2:(m.frm.toList==m.field.toList)
  ·rw[h1,h2]at h;have hb:mf m=true:=by simpa using h
   rw[hb];simp
  ·rw[er h2];simp
 ·rw[ew h1];simp
theorem tW {fs:List Fld} {m:Mnd} (h5:t5 fs m=false) (h7:t7 m=false):aL fs m=(m.put.toList.isEmpty||dA (fs.getD (nameAt fs m.field) Fld.none) m.put):=by
 unfold t5 at h5;unfold t7 at h7;unfold aL eP Pl.aE;cases h1:aN fs m.field
 ·rw[h1]at h5;simp at h5
 rw[h1]at h5;cases q1:(m.whn.toList==m.field.toList)
 ·cases q2:(m.frm.toList==m.field.toList)
  ·rw[q1,q2]at h7;have hb:mf m=false:=by simpa using h7
   rw[hb];cases h2:m.whn.toList.isEmpty<;>cases h3:m.frm.toList.isEmpty<;>cases h4:aN fs m.whn<;>cases h6:aN fs m.frm<;>rw[h2,h3,h4,h6]at h5<;>simp at h5 ⊢
  ·rw[q2]at h7;simp at h7
 ·rw[q1]at h7;simp at h7
theorem BP (B:Nat) (ss:List Shp) (m:Mnd) (w:World) (h:bd w B ss) (gJ:aM ss=true) (hm:m.sized):
  Calls Tryz.prog 116 #[.slice (some ⟨B,0,none⟩) ss.length ss.length,.agg #[.string m.kind,.string m.field,.string m.whn,.string m.is_,.string m.put,.string m.frm]] w fun e w'=>e=.returned (.bool (bN ss m))∧Bel w w':=by
 have HH:=hid (And.intro h (And.intro gJ hm));have hl:=h.len;clear h gJ hm;obtain⟨w1,dW⟩:∃ w1,w1=w.alloc (.cells #[.string m.kind,.string m.field,.string m.whn,.string m.is_,.string m.put,.string m.frm] 136):=⟨_,rfl⟩
 have cN:Hid (Bel w w1):=by show Below _ _ _;rw[dW];exact ab br _
 have lv:Hid (fR w1 w.heap.size 0 m∧w.heap.size<w1.heap.size):=by show _∧_;rw[dW];exact⟨⟨by simp,by simp,by simp,by simp,by simp,by simp,HH.out.2.2⟩,by simp⟩
 have Gk:=hid (HH.out.1.later cN.out);have jq:=lv.out.2;have m0:=lv.out.1.c0;have m1:=lv.out.1.c1;have m2:=lv.out.1.c2;have m3:=lv.out.1.c3;have m4:=lv.out.1.c4;have m5:=lv.out.1.c5;go_enter Tryz.func116,Tryz.ntmps116
 go_upto_region 1 with fail
 rw[← dW];clear dW;go_wp2_with fail
 refine(fQ B ss m.kind w1 Gk.out).mono ?_;rintro e w' ⟨rfl,rfl⟩;by_cases hk:aB ss m.kind<ss.length
 case neg=>
  rw[if_neg hk];have HR:Hid (bN ss m=false):=by show bN ss m=false;unfold bN aJ;simp[hk]
  go_wp2;go_ret;exact⟨Pl.ae HR.out.symm,cN.out⟩
 rw[if_pos hk];obtain⟨k,FI⟩:∃ k,k=aB ss m.kind:=⟨_,rfl⟩
 rw[← FI]at hk ⊢;obtain⟨s,hs⟩:∃ s,s=ss.getD k Shp.none:=⟨_,rfl⟩
 obtain⟨b,iZ,_,_,d1⟩:=Gk.out.uj hk hs;have A9:Hid (aG ss s.fields=true):=by show aG ss s.fields=true;rw[hs];exact iQ HH.out.2.1 hk
 have HE:Hid (bN ss m=aL s.fields m):=by show bN ss m=_;unfold bN aJ;rw[← FI,← hs];simp[hk]
 obtain⟨fs,dV⟩:∃ fs,fs=s.fields:=⟨_,rfl⟩
 rw[← dV]at iZ d1 A9 HE;have oY:Hid (bW w1 b fs):=iZ;have FW:=Gk.out.lt;have hfl2:=iZ.len;clear iZ FI hs dV;have JR:=hid fun k=>B2 b fs k w1 oY.out;go_upto_region 5 with fail
 go_cut [46] (fun x wx=>x=.bool (t5 fs m)∧wx=w1)
 case first=>
  have HT:Hid (t5 fs m=(!aN fs m.field||(!m.whn.toList.isEmpty&& !aN fs m.whn)||(!m.frm.toList.isEmpty&& !aN fs m.frm))):=rfl;obtain⟨pf,Az⟩:∃ x,x=aN fs m.field:=⟨_,rfl⟩
  obtain⟨pw,Bh⟩:∃ x,x=aN fs m.whn:=⟨_,rfl⟩
  obtain⟨pr,sG⟩:∃ x,x=aN fs m.frm:=⟨_,rfl⟩
  have LB:Hid (Calls Tryz.prog 162 #[.slice (some ⟨b,0,none⟩) fs.length fs.length,.string m.field] w1 fun e w'=>e=.returned (.bool pf)∧w1=w'):=by rw[Az];exact JR.out m.field
  have Lu:Hid (Calls Tryz.prog 162 #[.slice (some ⟨b,0,none⟩) fs.length fs.length,.string m.whn] w1 fun e w'=>e=.returned (.bool pw)∧w1=w'):=by rw[Bh];exact JR.out m.whn
  have IN:Hid (Calls Tryz.prog 162 #[.slice (some ⟨b,0,none⟩) fs.length fs.length,.string m.frm] w1 fun e w'=>e=.returned (.bool pr)∧w1=w'):=by rw[sG];exact JR.out m.frm
  rw[← Az,← Bh,← sG]at HT;clear JR Az Bh sG;go_wp2_with fail
  refine LB.out.mono ?_;rintro e w' ⟨rfl,rfl⟩;cases pf
  ·go_wp2_with fail
   go_meet
   exact⟨by rw[HT.out];rfl,rfl⟩
  cases h2:m.whn.toList.isEmpty
  ·go_wp2_with fail
   refine Lu.out.mono ?_;rintro e w' ⟨rfl,rfl⟩;cases pw
   ·go_wp2_with fail
    go_meet
    exact⟨by rw[HT.out,h2];rfl,rfl⟩
   cases h5:m.frm.toList.isEmpty
   ·go_wp2_with fail
    refine IN.out.mono ?_;rintro e w' ⟨rfl,rfl⟩;go_wp2_with fail
    go_meet
    exact⟨by rw[HT.out,h2,h5];cases pr<;>rfl,rfl⟩
   ·go_wp2_with fail
    go_meet
    exact⟨by rw[HT.out,h2,h5];rfl,rfl⟩
  ·cases h5:m.frm.toList.isEmpty
   ·go_wp2_with fail
    refine IN.out.mono ?_;rintro e w' ⟨rfl,rfl⟩;go_wp2_with fail
    go_meet
    exact⟨by rw[HT.out,h2,h5];cases pr<;>rfl,rfl⟩
   ·go_wp2_with fail
    go_meet
    exact⟨by rw[HT.out,h2,h5];rfl,rfl⟩
 case rest=>
 obtain⟨rfl,vG⟩:=hcut;subst vG;rename World=>w1;cases ht5:t5 fs m
 case true=>
  have HR:Hid (bN ss m=false):=by show bN ss m=false;rw[HE.out];exact tv ht5
  go_wp2;go_ret;exact⟨Pl.ae HR.out.symm,cN.out⟩
 have LA:Hid (t5 fs m=false):=ht5;clear ht5;go_upto_region 7 with fail
 go_cut [77] (fun x wx=>x=.bool (t7 m)∧wx=w1)
 case first=>
  have HT:Hid (t7 m=((m.whn.toList==m.field.toList)||(m.frm.toList==m.field.toList)||((m.whn.toList.isEmpty&& !m.is_.toList.isEmpty)||(m.put.toList.isEmpty==m.frm.toList.isEmpty)))):=rfl;cases q1:(m.whn.toList==m.field.toList)
  ·cases q2:(m.frm.toList==m.field.toList)
   ·cases h2:m.whn.toList.isEmpty
    ·cases h4:m.put.toList.isEmpty<;>cases h5:m.frm.toList.isEmpty
     all_goals
      go_wp2_with fail
      go_meet
      exact⟨by rw[HT.out,q1,q2,h2,h4,h5];rfl,rfl⟩
    ·cases h3:m.is_.toList.isEmpty
     ·go_wp2_with fail
      go_meet
      exact⟨by rw[HT.out,q1,q2,h2,h3];rfl,rfl⟩
     ·cases h4:m.put.toList.isEmpty<;>cases h5:m.frm.toList.isEmpty
      all_goals
       go_wp2_with fail
       go_meet
       exact⟨by rw[HT.out,q1,q2,h2,h3,h4,h5];rfl,rfl⟩
   ·go_wp2_with fail
    go_meet
    exact⟨by rw[HT.out,q1,q2];rfl,rfl⟩
  ·go_wp2_with fail
   go_meet
   exact⟨by rw[HT.out,q1];rfl,rfl⟩
 case rest=>
 obtain⟨rfl,vG⟩:=hcut;subst vG;rename World=>w1;cases ht7:t7 m
 case true=>
  have HR:Hid (bN ss m=false):=by show bN ss m=false;rw[HE.out];exact tS A9.out LA.out ht7
  go_wp2;go_ret;exact⟨Pl.ae HR.out.symm,cN.out⟩
 have AG:Hid (bN ss m=(m.put.toList.isEmpty||dA (fs.getD (nameAt fs m.field) Fld.none) m.put)):=by show bN ss m=_;rw[HE.out];exact tW LA.out ht7
 have eI:aN fs m.field=true:=by have:=LA.out;unfold t5 at this;cases h1:aN fs m.field;rw[h1]at this;simp at this;rfl
 have hq:=jk eI;clear ht7 eI HE;cases xY:m.put.toList.isEmpty
 ·obtain⟨q,sS⟩:∃ q,q=nameAt fs m.field:=⟨_,rfl⟩
  have HL:Hid (∀ W,Bel w1 W→Calls Tryz.prog 163 #[.slice (some ⟨b,0,none⟩) fs.length fs.length,.string m.field] W fun e w'=>e=.returned (.int .i64 (q:Nat))∧Bel W w'):=by
   intro W hW;refine(qE b fs m.field W (oY.out.later hW)).mono ?_;rintro e w' ⟨rfl,rfl⟩;rw[if_pos hq,← sS];exact⟨rfl,br⟩
  rw[← sS]at hq AG;obtain⟨f,hf⟩:∃ f,f=fs.getD q Fld.none:=⟨_,rfl⟩
  obtain⟨b2,pz,dP⟩:=oY.out.arg hq hf;have HR:Hid (bN ss m=dA f m.put):=by show bN ss m=_;rw[AG.out,xY,← hf];rfl
  have HX:Hid (∀ W,Bel w1 W→Calls Tryz.prog 120 #[.agg #[.string f.nm,.int .i64 f.kind,.int .i64 f.least,.int .i64 f.most,.slice (some ⟨b2,0,none⟩) f.words.length f.words.length,.string f.to,.int .i64 f.role,.bool f.must,.bool f.fixed,.string f.de,.string f.we],.string m.put] W fun e w'=>e=.returned (.bool (bN ss m))∧Bel W w'):=by
   intro W lX;rw[HR.out];exact mo f b2 m.put W HH.out.2.2.2.2.2.2.1 (pz.later lX)
  have iF:=hid (And.intro dP oY.out.lt);clear pz dP hf sS AG HR m0 m2 m3 m5;have HMw:Hid (∀ W,Bel w1 W→W.cell? ⟨w.heap.size,4,none⟩=some (.string m.put)∧W.cell? ⟨w.heap.size,1,none⟩=some (.string m.field)∧w.heap.size<W.heap.size∧jL W b (q*11) f (.slice (some ⟨b2,0,none⟩) f.words.length f.words.length)∧b<W.heap.size):=fun W hW=>⟨(hW.cell (p:=⟨w.heap.size,4,none⟩) lv.out.2).trans lv.out.1.c4,(hW.cell (p:=⟨w.heap.size,1,none⟩) lv.out.2).trans lv.out.1.c1,lo lv.out.2 hW.size,iF.out.1.later hW iF.out.2,lo iF.out.2 hW.size⟩
  have c0:=iF.out.1.c0;have c1:=iF.out.1.c1;have c2:=iF.out.1.c2;have c3:=iF.out.1.c3;have c4:=iF.out.1.c4;have c5:=iF.out.1.c5;have c6:=iF.out.1.c6;have c7:=iF.out.1.c7;have c8:=iF.out.1.c8;have c9:=iF.out.1.c9;have c10:=iF.out.1.c10;have Bi:=iF.out.2;go_wp2_with fail
  go_region_with (first
   |(go_at_call 163;refine(HL.out _ ?_).mono ?_;(repeat(first|exact br|refine Below.drew ?_));rintro e w3 ⟨rfl,aQ⟩;obtain⟨g4,g1,gz,⟨d0,d1,d2,d3,d4,d5,d6,d7,d8,d9,d10,_,_⟩,gb⟩:=HMw.out w3 (aa (by repeat(first|exact br|refine Below.drew ?_)) aQ))
   |(go_at_call 120;refine(HX.out _ ?_).mono ?_;(first|exact aa (by repeat(first|exact br|refine Below.drew ?_)) aQ|exact Below.drew (aa (by repeat(first|exact br|refine Below.drew ?_)) aQ));rintro e w4 ⟨rfl,cq⟩))
  all_goals
   go_wp2;go_ret;refine⟨rfl, ?_⟩;have eW:Bel w w3:=by repeat(first|exact aa cN.out aQ|exact aa cN.out.drew aQ|exact aa cN.out.drew.drew aQ)
   repeat(first|exact aa eW cq|exact aa eW.drew cq|refine Below.drew ?_)
 ·have HR:Hid (bN ss m=true):=by show bN ss m=_;rw[AG.out,xY];rfl
  clear AG;go_wp2_with fail
  go_region
  all_goals
   go_wp2;go_ret;exact⟨Pl.ae HR.out.symm,by repeat(first|exact cN.out|refine Below.drew ?_)⟩
end Go.Proofs.YtbiokpmdghmgcaaGreat
