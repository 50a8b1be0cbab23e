import Derived.Test.YtbiokpmdghmgcaaGreatObj
namespace Go.Proofs.YtbiokpmdghmgcaaGreat
set_option maxRecDepth 8000
set_option maxHeartbeats 40000000
open Go.RowKit Go.Deep
def fD (c p:Nat):Value:=if c=0 then .nilIface else .iface 261 (.agg #[.int .i64 (c:Nat),.int .i64 (p:Nat)])
def okV (b:Bool):Value:=if b=true then .nilIface else .iface 261 (.agg #[.int .i64 1,.int .i64 0])
theorem fx (b:Bool) (w:World):Calls Tryz.prog 204 #[.bool b] w fun e w'=>e=.returned (okV b)∧w=w':=by
 cases b
 all_goals
  go_enter Tryz.func204,Tryz.ntmps204
  go_wp2;go_ret;exact⟨rfl,rfl⟩
theorem dT {x y:Value} (h:x=y):Ending.returned x=Ending.returned y:=by rw[h]
def dN (o:Ob):Bool:=Pl.aq o.name&&Pl.aq o.team
def dL (o:Ob):Bool:=decide (o.holds.length≤3)&&Pl.asc o.holds
def bz (o:Ob):Bool:=decide (0≤o.version)&&decide (o.version≤1000000)
theorem tP (K:ByteArray) (fb:Nat) (fs:List Fld) (o:Ob) (b1 c1 b2 c2:Nat) (w:World) (hs:o.sized):
  Calls Tryz.prog 179 #[.agg #[.string K,.slice (some ⟨fb,0,none⟩) fs.length fs.length],.agg #[.string o.kind,.string o.name,.string o.team,.slice (some ⟨b1,0,none⟩) o.values.length c1,.bool o.ending,.slice (some ⟨b2,0,none⟩) o.holds.length c2,.int .i64 o.version]] w fun e w'=>e=.returned (okV (dN o))∧Bel w w':=by
 have HB:Hid (Bel w ((w.alloc (.cells #[.string K,.slice (some ⟨fb,0,none⟩) fs.length fs.length] 134)).alloc (.cells #[.string o.kind,.string o.name,.string o.team,.slice (some ⟨b1,0,none⟩) o.values.length c1,.bool o.ending,.slice (some ⟨b2,0,none⟩) o.holds.length c2,.int .i64 o.version] 111))):=ab (ab br _) _;have HS:=hid (And.intro hs.2.1 hs.2.2);clear hs;go_enter Tryz.func179,Tryz.ntmps179
 go_wp2_with fail
 refine(aK o.name _ HS.out.1).mono ?_;rintro e w' ⟨rfl,rfl⟩;cases h1:Pl.aq o.name
 ·have HT:Hid (dN o=false):=by show dN o=false;unfold dN;rw[h1];rfl
  go_wp2_with fail
  refine(fx false _).mono ?_;rintro e w' ⟨rfl,rfl⟩;obtain⟨R,hR⟩:∃ R,R=okV false:=⟨_,rfl⟩
  rw[← hR];have fA:=hid hR;clear hR;go_wp2;go_ret;exact⟨dT (by rw[fA.out,HT.out];rfl),HB.out⟩
 ·go_wp2_with fail
  refine(aK o.team _ HS.out.2).mono ?_;rintro e w' ⟨rfl,rfl⟩;have HT:Hid (dN o=Pl.aq o.team):=by show dN o=_;unfold dN;rw[h1];rfl
  obtain⟨q,hq⟩:∃ q,q=Pl.aq o.team:=⟨_,rfl⟩
  rw[← hq]at HT ⊢;clear hq;go_wp2_with fail
  refine(fx q _).mono ?_;rintro e w' ⟨rfl,rfl⟩;obtain⟨R,hR⟩:∃ R,R=okV q:=⟨_,rfl⟩
  rw[← hR];have fA:=hid hR;clear hR;go_wp2;go_ret;exact⟨dT (by rw[fA.out,HT.out];rfl),HB.out⟩
theorem uB (K:ByteArray) (fb:Nat) (fs:List Fld) (o:Ob) (b1 c1 b2 c2:Nat) (w:World):
  Calls Tryz.prog 180 #[.agg #[.string K,.slice (some ⟨fb,0,none⟩) fs.length fs.length],.agg #[.string o.kind,.string o.name,.string o.team,.slice (some ⟨b1,0,none⟩) o.values.length c1,.bool o.ending,.slice (some ⟨b2,0,none⟩) o.holds.length c2,.int .i64 o.version]] w fun e w'=>e=.returned (okV (decide (o.values.length=fs.length)))∧Bel w w':=by
 have HB:Hid (Bel w ((w.alloc (.cells #[.string K,.slice (some ⟨fb,0,none⟩) fs.length fs.length] 134)).alloc (.cells #[.string o.kind,.string o.name,.string o.team,.slice (some ⟨b1,0,none⟩) o.values.length c1,.bool o.ending,.slice (some ⟨b2,0,none⟩) o.holds.length c2,.int .i64 o.version] 111))):=ab (ab br _) _;by_cases h1:(o.values.length:Int)=(fs.length:Int)
 ·have HT:Hid (decide (o.values.length=fs.length)=true):=by show decide _=true;simp;omega
  go_enter Tryz.func180,Tryz.ntmps180
  go_wp2_with fail
  refine(fx true _).mono ?_;rintro e w' ⟨rfl,rfl⟩;obtain⟨R,hR⟩:∃ R,R=okV true:=⟨_,rfl⟩
  rw[← hR];have fA:=hid hR;clear hR;go_wp2;go_ret;exact⟨dT (by rw[fA.out,HT.out];rfl),HB.out⟩
 ·have HT:Hid (decide (o.values.length=fs.length)=false):=by show decide _=false;simp;omega
  have h2:((o.values.length:Int)==(fs.length:Int))=false:=by rw[beq_eq_false_iff_ne];exact h1
  go_enter Tryz.func180,Tryz.ntmps180
  go_wp2_with fail
  refine(fx false _).mono ?_;rintro e w' ⟨rfl,rfl⟩;obtain⟨R,hR⟩:∃ R,R=okV false:=⟨_,rfl⟩
  rw[← hR];have fA:=hid hR;clear hR;go_wp2;go_ret;exact⟨dT (by rw[fA.out,HT.out];rfl),HB.out⟩
theorem uC (K:ByteArray) (fb:Nat) (fs:List Fld) (o:Ob) (b1 c1 b2 c2:Nat) (w:World) (h:iW w b1 b2 o) (hz:∀ i,i<o.holds.length→(o.holds.getD i ByteArray.empty).size≤maxLen):
  Calls Tryz.prog 181 #[.agg #[.string K,.slice (some ⟨fb,0,none⟩) fs.length fs.length],.agg #[.string o.kind,.string o.name,.string o.team,.slice (some ⟨b1,0,none⟩) o.values.length c1,.bool o.ending,.slice (some ⟨b2,0,none⟩) o.holds.length c2,.int .i64 o.version]] w fun e w'=>e=.returned (okV (dL o))∧Bel w w':=by
 have HB:Hid (Bel w ((w.alloc (.cells #[.string K,.slice (some ⟨fb,0,none⟩) fs.length fs.length] 134)).alloc (.cells #[.string o.kind,.string o.name,.string o.team,.slice (some ⟨b1,0,none⟩) o.values.length c1,.bool o.ending,.slice (some ⟨b2,0,none⟩) o.holds.length c2,.int .i64 o.version] 111))):=ab (ab br _) _;have hl:=h.len2;have HX:Hid (Calls Tryz.prog 205 #[.slice (some ⟨b2,0,none⟩) o.holds.length c2] ((w.alloc (.cells #[.string K,.slice (some ⟨fb,0,none⟩) fs.length fs.length] 134)).alloc (.cells #[.string o.kind,.string o.name,.string o.team,.slice (some ⟨b1,0,none⟩) o.values.length c1,.bool o.ending,.slice (some ⟨b2,0,none⟩) o.holds.length c2,.int .i64 o.version] 111)) fun e w'=>e=.returned (.bool (Pl.asc o.holds))∧((w.alloc (.cells #[.string K,.slice (some ⟨fb,0,none⟩) fs.length fs.length] 134)).alloc (.cells #[.string o.kind,.string o.name,.string o.team,.slice (some ⟨b1,0,none⟩) o.values.length c1,.bool o.ending,.slice (some ⟨b2,0,none⟩) o.holds.length c2,.int .i64 o.version] 111))=w'):=
  ve b2 c2 o.holds _ hl hz (fun i hi=>by rw[Nat.zero_add];exact(h.later HB.out).at2 i hi)
 clear h hz;by_cases h1:(o.holds.length:Int)≤3
 ·obtain⟨q,hq⟩:∃ q,q=Pl.asc o.holds:=⟨_,rfl⟩
  rw[← hq]at HX;have HT:Hid (dL o=q):=by show dL o=q;unfold dL;rw[hq];simp;omega
  clear hq;go_enter Tryz.func181,Tryz.ntmps181
  go_wp2_with fail
  refine HX.out.mono ?_;rintro e w' ⟨rfl,rfl⟩;go_wp2_with fail
  refine(fx q _).mono ?_;rintro e w' ⟨rfl,rfl⟩;obtain⟨R,hR⟩:∃ R,R=okV q:=⟨_,rfl⟩
  rw[← hR];have fA:=hid hR;clear hR;go_wp2;go_ret;exact⟨dT (by rw[fA.out,HT.out];rfl),HB.out⟩
 ·have HT:Hid (dL o=false):=by show dL o=false;unfold dL;simp;omega
  clear HX;go_enter Tryz.func181,Tryz.ntmps181
  go_wp2_with fail
  refine(fx false _).mono ?_;rintro e w' ⟨rfl,rfl⟩;obtain⟨R,hR⟩:∃ R,R=okV false:=⟨_,rfl⟩
  rw[← hR];have fA:=hid hR;clear hR;go_wp2;go_ret;exact⟨dT (by rw[fA.out,HT.out];rfl),HB.out⟩
theorem qL (K:ByteArray) (fb:Nat) (fs:List Fld) (o:Ob) (b1 c1 b2 c2:Nat) (w:World):
  Calls Tryz.prog 182 #[.agg #[.string K,.slice (some ⟨fb,0,none⟩) fs.length fs.length],.agg #[.string o.kind,.string o.name,.string o.team,.slice (some ⟨b1,0,none⟩) o.values.length c1,.bool o.ending,.slice (some ⟨b2,0,none⟩) o.holds.length c2,.int .i64 o.version]] w fun e w'=>e=.returned (okV (bz o))∧Bel w w':=by
 have HB:Hid (Bel w ((w.alloc (.cells #[.string K,.slice (some ⟨fb,0,none⟩) fs.length fs.length] 134)).alloc (.cells #[.string o.kind,.string o.name,.string o.team,.slice (some ⟨b1,0,none⟩) o.values.length c1,.bool o.ending,.slice (some ⟨b2,0,none⟩) o.holds.length c2,.int .i64 o.version] 111))):=ab (ab br _) _;by_cases h1:0≤o.version
 ·by_cases h2:o.version≤1000000
  ·have HT:Hid (bz o=true):=by show bz o=true;unfold bz;simp[h1,h2]
   go_enter Tryz.func182,Tryz.ntmps182
   go_wp2_with fail
   refine(fx true _).mono ?_;rintro e w' ⟨rfl,rfl⟩;obtain⟨R,hR⟩:∃ R,R=okV true:=⟨_,rfl⟩
   rw[← hR];have fA:=hid hR;clear hR;go_wp2;go_ret;exact⟨dT (by rw[fA.out,HT.out];rfl),HB.out⟩
  ·have HT:Hid (bz o=false):=by show bz o=false;unfold bz;simp[h2]
   go_enter Tryz.func182,Tryz.ntmps182
   go_wp2_with fail
   refine(fx false _).mono ?_;rintro e w' ⟨rfl,rfl⟩;obtain⟨R,hR⟩:∃ R,R=okV false:=⟨_,rfl⟩
   rw[← hR];have fA:=hid hR;clear hR;go_wp2;go_ret;exact⟨dT (by rw[fA.out,HT.out];rfl),HB.out⟩
 ·have HT:Hid (bz o=false):=by show bz o=false;unfold bz;simp[h1]
  go_enter Tryz.func182,Tryz.ntmps182
  go_wp2_with fail
  refine(fx false _).mono ?_;rintro e w' ⟨rfl,rfl⟩;obtain⟨R,hR⟩:∃ R,R=okV false:=⟨_,rfl⟩
  rw[← hR];have fA:=hid hR;clear hR;go_wp2;go_ret;exact⟨dT (by rw[fA.out,HT.out];rfl),HB.out⟩
def iV (fs:List Fld) (vs:List ByteArray) (i:Nat):Nat:=
 if (vs.getD i ByteArray.empty).toList.isEmpty=true then (if (fs.getD i Fld.none).must=true then 2 else 0) else (if dA (fs.getD i Fld.none) (vs.getD i ByteArray.empty)=true then 0 else 3)
def dn (fs:List Fld) (vs:List ByteArray):Nat:=(List.range fs.length).findIdx fun i=>decide (iV fs vs i≠0)
def dt (fs:List Fld) (vs:List ByteArray):Nat:=if dn fs vs<fs.length then iV fs vs (dn fs vs) else 0
def eT (fs:List Fld) (vs:List ByteArray):Nat:=if dn fs vs<fs.length then dn fs vs else 0
theorem lT {fs:List Fld} {vs:List ByteArray} {i:Nat} (_hi:i<fs.length) (iH:i≤dn fs vs) (h:iV fs vs i≠0):dn fs vs=i:=by
 have:dn fs vs≤i:=by
  unfold dn;exact Nat.le_of_not_lt fun aw=>by
   have:=List.not_of_lt_findIdx aw;simp[h]at this
 omega
theorem kK {fs:List Fld} {vs:List ByteArray} {i:Nat} (hi:i<fs.length) (iH:i≤dn fs vs) (h:iV fs vs i=0):i+1≤dn fs vs:=by
 by_cases hq:dn fs vs=i
 ·exfalso;have aw:dn fs vs<(List.range fs.length).length:=by simp;omega
  have:=List.findIdx_getElem (w:=aw);unfold dn at hq;simp only[hq]at this;simp[h]at this
 ·omega
theorem l8 (f:Fld) (b:Nat) (v:ByteArray) (w:World) (hv:v.size≤maxLen) (h:eC w b f):
  Calls Tryz.prog 173 #[.agg #[.string f.nm,.int .i64 f.kind,.int .i64 f.least,.int .i64 f.most,.slice (some ⟨b,0,none⟩) f.words.length f.words.length,.string f.to,.int .i64 f.role,.bool f.must,.bool f.fixed,.string f.de,.string f.we],.string v] w
   fun e w'=>e=.returned (.bool (dA f v))∧Bel w w':=
 lE f.nm f.kind f.least f.most b 0 _ f.to f.role f.must f.fixed f.de f.we v f.words w hv h.lt (by have:=h.small;unfold Fld.small at this;unfold maxLen;omega) h.cells
theorem rh (K:ByteArray) (fb:Nat) (fs:List Fld) (o:Ob) (b1 c1 b2 c2:Nat) (w:World) (h:iW w b1 b2 o) (hf:bW w fb fs) (hz:∀ i,i<o.values.length→(o.values.getD i ByteArray.empty).size≤maxLen) (hn:o.values.length=fs.length):
  Calls Tryz.prog 183 #[.agg #[.string K,.slice (some ⟨fb,0,none⟩) fs.length fs.length],.agg #[.string o.kind,.string o.name,.string o.team,.slice (some ⟨b1,0,none⟩) o.values.length c1,.bool o.ending,.slice (some ⟨b2,0,none⟩) o.holds.length c2,.int .i64 o.version]] w fun e w'=>e=.returned (fD (dt fs o.values) (eT fs o.values))∧Bel w w':=by
 have HA:=hid (And.intro h (And.intro hf (And.intro hz hn)));have hl:=hf.len;obtain⟨w2,i3⟩:∃ w2,w2=((w.alloc (.cells #[.string K,.slice (some ⟨fb,0,none⟩) fs.length fs.length] 134)).alloc (.cells #[.string o.kind,.string o.name,.string o.team,.slice (some ⟨b1,0,none⟩) o.values.length c1,.bool o.ending,.slice (some ⟨b2,0,none⟩) o.holds.length c2,.int .i64 o.version] 111)):=⟨_,rfl⟩
 have HB:Hid (Bel w w2):=by show Below _ _ _;rw[i3];exact ab (ab br _) _
 have HK:Hid (w2.heap.size=w.heap.size+2∧w2.cell? ⟨w.heap.size+1,3,none⟩=some (.slice (some ⟨b1,0,none⟩) o.values.length c1)∧w2.cell? ⟨w.heap.size,1,none⟩=some (.slice (some ⟨fb,0,none⟩) fs.length fs.length)):=by show _∧_∧_;rw[i3];exact⟨by simp,by simp,by simp⟩
 have k1:=HK.out.2.2;have k3:=HK.out.2.1;have mV:w.heap.size<w2.heap.size:=by have:=HK.out.1;omega
 have jq:w.heap.size+1<w2.heap.size:=by have:=HK.out.1;omega
 clear h hf hz hn;go_enter Tryz.func183,Tryz.ntmps183
 go_upto_region 1 with fail
 rw[← i3];clear i3;go_wp2;clear k1 k3 mV jq;go_loopw [11] (fun i wr=>∃ k:Nat,k≤fs.length∧i=.int .i64 k∧k≤dn fs o.values∧Bel w2 wr) (fun i _=>fs.length - (intOf i).toNat)
 case atStart=>exact⟨0,nz,rfl,nz,br⟩
 case round=>
  obtain⟨k,hk,rfl,iH,hW⟩:=hrel;have HN:=hid iH;have HW:=hid hW;have lZ:=hid (aa HB.out hW);clear iH;by_cases aw:k<fs.length
  ·obtain⟨f,fG⟩:∃ f,f=fs.getD k Fld.none:=⟨_,rfl⟩
   obtain⟨bf,pz,dP⟩:=(HA.out.2.1.later lZ.out).arg aw fG;have Fs:k<o.values.length:=by rw[HA.out.2.2.2];exact aw
   have v0:=(HA.out.1.later lZ.out).at1 k Fs;obtain⟨v,hv⟩:∃ v,v=o.values.getD k ByteArray.empty:=⟨_,rfl⟩
   rw[← hv]at v0;have HV:Hid (v.size≤maxLen):=by show v.size≤maxLen;rw[hv];exact HA.out.2.2.1 k Fs
   have ea:Hid (iV fs o.values k=if v.toList.isEmpty=true then (if f.must=true then 2 else 0) else (if dA f v=true then 0 else 3)):=by show iV fs o.values k=_;unfold iV;rw[← fG,← hv]
   have HM:Hid (iV fs o.values k=0→k+1≤dn fs o.values):=fun e=>kK aw HN.out e;have HH:Hid (∀ c:Nat,c≠0→iV fs o.values k=c→fD (dt fs o.values) (eT fs o.values)=.iface 261 (.agg #[.int .i64 (c:Nat),.int .i64 (k:Nat)])):=by
    intro c hc e;have e1:=lT aw HN.out (by rw[e];exact hc);unfold dt eT fD;rw[e1,if_pos aw,if_pos aw,e,if_neg hc]
   have bj:=(HA.out.1.later lZ.out).lt1;have I4:=(HA.out.2.1.later lZ.out).lt;have I9:w.heap.size+1<wr.heap.size:=by have:=HW.out.size;have:=HK.out.1;omega
   have k3:wr.cell? ⟨w.heap.size+1,3,none⟩=some (.slice (some ⟨b1,0,none⟩) o.values.length c1):=(hW.cell (p:=⟨w.heap.size+1,3,none⟩) (by have:=HK.out.1;show w.heap.size+1<_;omega)).trans HK.out.2.1;obtain⟨c0,c1',FA,c3,c4,c5,c6,c7,c8,c9,c10,_,_⟩:=dP;have FX:=hid pz;clear fG pz hv hW;cases he:v.toList.isEmpty
   ·have HX:=hid fun (W:World) (lX:Bel wr W)=>l8 f bf v W HV.out (FX.out.later lX);go_wp2_with fail
    refine(HX.out _ (ab br _)).mono ?_;rintro e w3 ⟨rfl,aQ⟩;have gq:Hid (Bel wr w3):=aa (ab br _) aQ;clear aQ;cases hfit:dA f v
    ·have HE:=hid (HH.out 3 (by decide) (by rw[ea.out,he,hfit];rfl));go_wp2;go_ret;exact⟨dT HE.out.symm,aa lZ.out gq.out⟩
    ·have HE:=hid (HM.out (by rw[ea.out,he,hfit];rfl));clear c0 c1' FA c3 c4 c5 c6 c7 c8 c9 c10 v0 k3;go_wp2;go_roundw
     case rel=>exact⟨k+1,by omega,by go_num,HE.out,aa HW.out gq.out⟩
     case measure=>simp[intOf];omega
   ·cases hmu:f.must
    ·have HE:=hid (HM.out (by rw[ea.out,he,hmu];rfl));go_wp2;go_roundw
     case rel=>exact⟨k+1,by omega,by go_num,HE.out,ab HW.out _⟩
     case measure=>simp[intOf];omega
    ·have HE:=hid (HH.out 2 (by decide) (by rw[ea.out,he,hmu];rfl));go_wp2;go_ret;exact⟨dT HE.out.symm,ab lZ.out _⟩
  ·have HE:Hid (fD (dt fs o.values) (eT fs o.values)=.nilIface):=by
    show fD _ _=_;have e:dt fs o.values=0:=by unfold dt;rw[if_neg (by have:=HN.out;omega)]
    unfold fD;rw[e];rfl
   go_wp2;go_ret;exact⟨dT HE.out.symm,lZ.out⟩
set_option maxRecDepth 8000
set_option maxHeartbeats 40000000
open Go.RowKit Go.Deep
def dk (fs:List Fld) (o:Ob):Nat:=if (dN o&&decide (o.values.length=fs.length)&&dL o&&bz o)=true then dt fs o.values else 1
def dF (fs:List Fld) (o:Ob):Nat:=if (dN o&&decide (o.values.length=fs.length)&&dL o&&bz o)=true then eT fs o.values else 0
theorem sw (K:ByteArray) (fb:Nat) (fs:List Fld) (o:Ob) (b1 c1 b2 c2:Nat) (w:World) (h:iW w b1 b2 o) (hf:bW w fb fs) (hs:o.sized) (jq:∀ i,i<o.values.length→(o.values.getD i ByteArray.empty).size≤maxLen) (gR:∀ i,i<o.holds.length→(o.holds.getD i ByteArray.empty).size≤maxLen):
  Calls Tryz.prog 139 #[.agg #[.string K,.slice (some ⟨fb,0,none⟩) fs.length fs.length],.agg #[.string o.kind,.string o.name,.string o.team,.slice (some ⟨b1,0,none⟩) o.values.length c1,.bool o.ending,.slice (some ⟨b2,0,none⟩) o.holds.length c2,.int .i64 o.version]] w fun e w'=>e=.returned (fD (dk fs o) (dF fs o))∧Bel w w':=by
 have HA:=hid (And.intro h (And.intro hf (And.intro hs (And.intro jq gR))));clear h hf hs jq gR;obtain⟨w3,u4⟩:∃ w3,w3=(((w.alloc (.cells #[.string K,.slice (some ⟨fb,0,none⟩) fs.length fs.length] 134)).alloc (.cells #[.string o.kind,.string o.name,.string o.team,.slice (some ⟨b1,0,none⟩) o.values.length c1,.bool o.ending,.slice (some ⟨b2,0,none⟩) o.holds.length c2,.int .i64 o.version] 111)).alloc (.cells #[.func (.func 179) #[] #[],.func (.func 180) #[] #[],.func (.func 181) #[] #[],.func (.func 182) #[] #[],.func (.func 183) #[] #[]] 205)):=⟨_,rfl⟩
 have HB:Hid (Bel w w3):=by show Below _ _ _;rw[u4];exact ab (ab (ab br _) _) _
 have HZ:Hid (w3.heap.size=w.heap.size+3):=by show _=_;rw[u4];simp
 have HK:Hid ((w3.cell? ⟨w.heap.size,0,none⟩=some (.string K)∧w3.cell? ⟨w.heap.size,1,none⟩=some (.slice (some ⟨fb,0,none⟩) fs.length fs.length))∧(w3.cell? ⟨w.heap.size+1,0,none⟩=some (.string o.kind)∧w3.cell? ⟨w.heap.size+1,1,none⟩=some (.string o.name)∧w3.cell? ⟨w.heap.size+1,2,none⟩=some (.string o.team)∧w3.cell? ⟨w.heap.size+1,3,none⟩=some (.slice (some ⟨b1,0,none⟩) o.values.length c1)∧w3.cell? ⟨w.heap.size+1,4,none⟩=some (.bool o.ending)∧w3.cell? ⟨w.heap.size+1,5,none⟩=some (.slice (some ⟨b2,0,none⟩) o.holds.length c2)∧w3.cell? ⟨w.heap.size+1,6,none⟩=some (.int .i64 o.version))∧(w3.cell? ⟨w.heap.size+1+1,0,none⟩=some (.func (.func 179) #[] #[])∧w3.cell? ⟨w.heap.size+1+1,1,none⟩=some (.func (.func 180) #[] #[])∧w3.cell? ⟨w.heap.size+1+1,2,none⟩=some (.func (.func 181) #[] #[])∧w3.cell? ⟨w.heap.size+1+1,3,none⟩=some (.func (.func 182) #[] #[])∧w3.cell? ⟨w.heap.size+1+1,4,none⟩=some (.func (.func 183) #[] #[]))):=by
  have e3:∀ b j,b<w.heap.size+2→w3.cell? ⟨b,j,none⟩=((w.alloc (.cells #[.string K,.slice (some ⟨fb,0,none⟩) fs.length fs.length] 134)).alloc (.cells #[.string o.kind,.string o.name,.string o.team,.slice (some ⟨b1,0,none⟩) o.values.length c1,.bool o.ending,.slice (some ⟨b2,0,none⟩) o.holds.length c2,.int .i64 o.version] 111)).cell? ⟨b,j,none⟩:=by
   intro b j hb;rw[u4];exact(ab br _).cell (p:=⟨b,j,none⟩) (by show b<_;simp;omega)
  refine⟨⟨?_, ?_⟩,⟨?_, ?_, ?_, ?_, ?_, ?_, ?_⟩,⟨?_, ?_, ?_, ?_, ?_⟩⟩
  ·exact(e3 _ _ (by omega)).trans (by simp)
  ·exact(e3 _ _ (by omega)).trans (by simp)
  ·exact(e3 _ _ (by omega)).trans (by simp)
  ·exact(e3 _ _ (by omega)).trans (by simp)
  ·exact(e3 _ _ (by omega)).trans (by simp)
  ·exact(e3 _ _ (by omega)).trans (by simp)
  ·exact(e3 _ _ (by omega)).trans (by simp)
  ·exact(e3 _ _ (by omega)).trans (by simp)
  ·exact(e3 _ _ (by omega)).trans (by simp)
  ·rw[u4,World.cell?_alloc_at _ _ _ _ (by simp)];rfl
  ·rw[u4,World.cell?_alloc_at _ _ _ _ (by simp)];rfl
  ·rw[u4,World.cell?_alloc_at _ _ _ _ (by simp)];rfl
  ·rw[u4,World.cell?_alloc_at _ _ _ _ (by simp)];rfl
  ·rw[u4,World.cell?_alloc_at _ _ _ _ (by simp)];rfl
 go_enter Tryz.func139,Tryz.ntmps139
 go_upto_region 2 with fail
 rw[← u4];clear u4;go_wp2;go_loopw [12] (fun i wr=>∃ k:Nat,k≤5∧i=.int .i64 k∧(1≤k→dN o=true)∧(2≤k→o.values.length=fs.length)∧(3≤k→dL o=true)∧(4≤k→bz o=true)∧(5≤k→dt fs o.values=0)∧Bel w3 wr) (fun i _=>5 - (intOf i).toNat)
 case atStart=>exact⟨0,by omega,rfl,fun h=>by omega,fun h=>by omega,fun h=>by omega,fun h=>by omega,fun h=>by omega,br⟩
 case round=>
  obtain⟨k,hk,rfl,g1,g2,g3,g4,g5,hW⟩:=hrel;have HG:=hid (And.intro g1 (And.intro g2 (And.intro g3 (And.intro g4 g5))));have HW:=hid hW;have lZ:=hid (aa HB.out hW);have I9:w.heap.size+1+1<wr.heap.size:=by have:=hW.size;have:=HZ.out;omega
  have q:∀ b j,b<w.heap.size+3→wr.cell? ⟨b,j,none⟩=w3.cell? ⟨b,j,none⟩:=fun b j hb=>hW.cell (p:=⟨b,j,none⟩) (by have:=HZ.out;show b<_;omega);have s0:=(q w.heap.size 0 (by omega)).trans HK.out.1.1;have s1:=(q w.heap.size 1 (by omega)).trans HK.out.1.2;have o0:=(q (w.heap.size+1) 0 (by omega)).trans HK.out.2.1.1;have o1:=(q (w.heap.size+1) 1 (by omega)).trans HK.out.2.1.2.1;have o2:=(q (w.heap.size+1) 2 (by omega)).trans HK.out.2.1.2.2.1;have o3:=(q (w.heap.size+1) 3 (by omega)).trans HK.out.2.1.2.2.2.1;have o4:=(q (w.heap.size+1) 4 (by omega)).trans HK.out.2.1.2.2.2.2.1;have o5:=(q (w.heap.size+1) 5 (by omega)).trans HK.out.2.1.2.2.2.2.2.1;have o6:=(q (w.heap.size+1) 6 (by omega)).trans HK.out.2.1.2.2.2.2.2.2;have f0:=(q (w.heap.size+1+1) 0 (by omega)).trans HK.out.2.2.1;have f1:=(q (w.heap.size+1+1) 1 (by omega)).trans HK.out.2.2.2.1;have f2:=(q (w.heap.size+1+1) 2 (by omega)).trans HK.out.2.2.2.2.1;have f3:=(q (w.heap.size+1+1) 3 (by omega)).trans HK.out.2.2.2.2.2.1;have f4:=(q (w.heap.size+1+1) 4 (by omega)).trans HK.out.2.2.2.2.2.2;clear q g1 g2 g3 g4 g5 hW;by_cases k0:k=0
  ·subst k0;go_wp2_with fail
   refine(tP K fb fs o b1 c1 b2 c2 wr HA.out.2.2.1).mono ?_;rintro e w4 ⟨rfl,cq⟩;have aY:=hid (aa HW.out cq);clear cq s0 s1 o0 o1 o2 o3 o4 o5 o6 f0 f1 f2 f3 f4;cases hb:dN o
   ·have HE:Hid (fD (dk fs o) (dF fs o)=.iface 261 (.agg #[.int .i64 1,.int .i64 0])):=by
     show fD _ _=_;unfold dk dF;rw[hb];simp[fD]
    have e:okV false=.iface 261 (.agg #[.int .i64 1,.int .i64 0]):=rfl;rw[e];clear e;go_wp2;go_ret;exact⟨dT HE.out.symm,aa HB.out aY.out⟩
   ·have e:okV true=.nilIface:=rfl;rw[e];clear e;go_wp2;go_roundw
    case rel=>exact⟨0+1,by omega,by go_num,fun _=>hb,fun h=>by omega,fun h=>by omega,fun h=>by omega,fun h=>by omega,aY.out⟩
    case measure=>simp[intOf]
  by_cases k1:k=1
  ·subst k1;go_wp2_with fail
   refine(uB K fb fs o b1 c1 b2 c2 wr).mono ?_;rintro e w4 ⟨rfl,cq⟩;have aY:=hid (aa HW.out cq);clear cq s0 s1 o0 o1 o2 o3 o4 o5 o6 f0 f1 f2 f3 f4;cases hb:(decide (o.values.length=fs.length))
   ·have HE:Hid (fD (dk fs o) (dF fs o)=.iface 261 (.agg #[.int .i64 1,.int .i64 0])):=by
     show fD _ _=_;unfold dk dF;rw[hb];simp[fD]
    have e:okV false=.iface 261 (.agg #[.int .i64 1,.int .i64 0]):=rfl;rw[e];clear e;go_wp2;go_ret;exact⟨dT HE.out.symm,aa HB.out aY.out⟩
   ·have e:okV true=.nilIface:=rfl;rw[e];clear e;go_wp2;go_roundw
    case rel=>exact⟨1+1,by omega,by go_num,fun _=>HG.out.1 (by omega),fun _=>of_decide_eq_true hb,fun h=>by omega,fun h=>by omega,fun h=>by omega,aY.out⟩
    case measure=>simp[intOf]
  by_cases k2:k=2
  ·subst k2;go_wp2_with fail
   refine(uC K fb fs o b1 c1 b2 c2 wr (HA.out.1.later lZ.out) HA.out.2.2.2.2).mono ?_;rintro e w4 ⟨rfl,cq⟩;have aY:=hid (aa HW.out cq);clear cq s0 s1 o0 o1 o2 o3 o4 o5 o6 f0 f1 f2 f3 f4;cases hb:dL o
   ·have HE:Hid (fD (dk fs o) (dF fs o)=.iface 261 (.agg #[.int .i64 1,.int .i64 0])):=by
     show fD _ _=_;unfold dk dF;rw[hb];simp[fD]
    have e:okV false=.iface 261 (.agg #[.int .i64 1,.int .i64 0]):=rfl;rw[e];clear e;go_wp2;go_ret;exact⟨dT HE.out.symm,aa HB.out aY.out⟩
   ·have e:okV true=.nilIface:=rfl;rw[e];clear e;go_wp2;go_roundw
    case rel=>exact⟨2+1,by omega,by go_num,fun _=>HG.out.1 (by omega),fun _=>HG.out.2.1 (by omega),fun _=>hb,fun h=>by omega,fun h=>by omega,aY.out⟩
    case measure=>simp[intOf]
  by_cases k3:k=3
  ·subst k3;go_wp2_with fail
   refine(qL K fb fs o b1 c1 b2 c2 wr).mono ?_;rintro e w4 ⟨rfl,cq⟩;have aY:=hid (aa HW.out cq);clear cq s0 s1 o0 o1 o2 o3 o4 o5 o6 f0 f1 f2 f3 f4;cases hb:bz o
   ·have HE:Hid (fD (dk fs o) (dF fs o)=.iface 261 (.agg #[.int .i64 1,.int .i64 0])):=by
     show fD _ _=_;unfold dk dF;rw[hb];simp[fD]
    have e:okV false=.iface 261 (.agg #[.int .i64 1,.int .i64 0]):=rfl;rw[e];clear e;go_wp2;go_ret;exact⟨dT HE.out.symm,aa HB.out aY.out⟩
   ·have e:okV true=.nilIface:=rfl;rw[e];clear e;go_wp2;go_roundw
    case rel=>exact⟨3+1,by omega,by go_num,fun _=>HG.out.1 (by omega),fun _=>HG.out.2.1 (by omega),fun _=>HG.out.2.2.1 (by omega),fun _=>hb,fun h=>by omega,aY.out⟩
    case measure=>simp[intOf]
  by_cases k4:k=4
  ·subst k4;have HE:Hid (fD (dk fs o) (dF fs o)=fD (dt fs o.values) (eT fs o.values)):=by
    show fD _ _=_;unfold dk dF;rw[HG.out.1 (by omega),HG.out.2.2.1 (by omega),HG.out.2.2.2.1 (by omega)];simp[HG.out.2.1 (by omega)]
   have HX:=rh K fb fs o b1 c1 b2 c2 wr (HA.out.1.later lZ.out) (HA.out.2.1.later lZ.out) HA.out.2.2.2.1 (HG.out.2.1 (by omega));by_cases hc:dt fs o.values=0
   ·have e:fD (dt fs o.values) (eT fs o.values)=.nilIface:=by unfold fD;rw[if_pos hc]
    rw[e]at HX;have Kw:=hid HX;clear HX e;go_wp2_with fail
    refine Kw.out.mono ?_;rintro e w4 ⟨rfl,cq⟩;have aY:=hid (aa HW.out cq);clear cq s0 s1 o0 o1 o2 o3 o4 o5 o6 f0 f1 f2 f3 f4;go_wp2;go_roundw
    case rel=>exact⟨4+1,by omega,by go_num,fun _=>HG.out.1 (by omega),fun _=>HG.out.2.1 (by omega),fun _=>HG.out.2.2.1 (by omega),fun _=>HG.out.2.2.2.1 (by omega),fun _=>hc,aY.out⟩
    case measure=>simp[intOf]
   ·have e:fD (dt fs o.values) (eT fs o.values)=.iface 261 (.agg #[.int .i64 (dt fs o.values:Nat),.int .i64 (eT fs o.values:Nat)]):=by unfold fD;rw[if_neg hc]
    rw[e]at HX HE;have Kw:=hid HX;clear HX e;go_wp2_with fail
    refine Kw.out.mono ?_;rintro e w4 ⟨rfl,cq⟩;have aY:=hid (aa HW.out cq);clear cq s0 s1 o0 o1 o2 o3 o4 o5 o6 f0 f1 f2 f3 f4;go_wp2;go_ret;exact⟨dT HE.out.symm,aa HB.out aY.out⟩
  obtain rfl:k=5:=by omega
  have HE:Hid (fD (dk fs o) (dF fs o)=.nilIface):=by
   show fD _ _=_;unfold dk dF;rw[HG.out.1 (by omega),HG.out.2.2.1 (by omega),HG.out.2.2.2.1 (by omega),HG.out.2.2.2.2 (by omega)];simp[HG.out.2.1 (by omega),fD]
  go_wp2;go_ret;exact⟨dT HE.out.symm,lZ.out⟩
end Go.Proofs.YtbiokpmdghmgcaaGreat
namespace Go.Proofs.YtbiokpmdghmgcaaGreat
open Go.RowKit Go.Deep
def jc (ss:List Shp) (o:Ob):Nat:=if (aM ss&&aJ ss o.kind)=true then dk (ss.getD (aB ss o.kind) Shp.none).fields o else 1
def iO (ss:List Shp) (o:Ob):Nat:=if (aM ss&&aJ ss o.kind)=true then (if dk (ss.getD (aB ss o.kind) Shp.none).fields o=0 then 0 else dF (ss.getD (aB ss o.kind) Shp.none).fields o) else 0
end Go.Proofs.YtbiokpmdghmgcaaGreat
