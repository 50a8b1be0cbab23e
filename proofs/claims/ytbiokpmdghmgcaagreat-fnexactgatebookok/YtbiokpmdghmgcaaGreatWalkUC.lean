import Derived.Test.YtbiokpmdghmgcaaGreatPlainT
import Derived.Test.YtbiokpmdghmgcaaGreatWalkA
namespace Go.Proofs.YtbiokpmdghmgcaaGreat
set_option maxHeartbeats 40000000
open Go.RowKit Go.Deep
theorem lL {a b:ByteArray} (h:a=b):Ending.returned (.string a)=.returned (.string b):=by rw[h]
theorem iz (B:Nat) (ts:List Tm) (n:ByteArray) (w:World) (h:eS w B ts):
  Calls Tryz.prog 118 #[.slice (some ⟨B,0,none⟩) ts.length ts.length,.string n] w fun e w'=>e=.returned (.string (bM ts n))∧w=w':=by
 have hl:=h.len;obtain⟨R,hR⟩:∃ R,R=bM ts n:=⟨_,rfl⟩
 have HR:=hid hR;rw[← hR];clear hR;go_enter Tryz.func118,Tryz.ntmps118
 go_wp2;go_loop [5] (fun i=>∃ k:Nat,k≤ts.length∧i=.int .i64 k∧bM (ts.drop k) n=R) (fun i=>ts.length - (intOf i).toNat)
 case atStart=>exact⟨0,nz,rfl,HR.out.symm⟩
 case round=>
  obtain⟨k,hk,rfl,hq⟩:=hrel;have HQ:=hid hq;clear hq;by_cases aw:k<ts.length
  ·obtain⟨t,ht⟩:∃ t,t=ts.getD k Tm.none:=⟨_,rfl⟩
   have hc:=h.at_ k aw;have hd:=pC ts n k aw;rw[← ht]at hc hd;obtain⟨c0,c1,_⟩:=hc;have HD:Hid (R=if (t.nm.toList==n.toList)=true then t.ov else bM (ts.drop (k+1)) n):=by show R=_;rw[← HQ.out,hd]
   clear hd ht h;cases hn:(t.nm.toList==n.toList)
   ·have HE:Hid (bM (ts.drop (k+1)) n=R):=by have:=HD.out;rw[hn]at this;exact this.symm
    go_wp2;go_round
    case rel=>exact⟨k+1,by omega,by go_num,HE.out⟩
    case measure=>simp[intOf];omega
   ·have HE:Hid (t.ov=R):=by have:=HD.out;rw[hn]at this;exact this.symm
    go_wp2;go_ret;exact⟨lL HE.out,rfl⟩
  ·have HE:Hid (R=ByteArray.empty):=by show R=_;rw[← HQ.out,nX ts n k (by omega)]
   clear h;go_wp2;go_ret;exact⟨lL HE.out.symm,rfl⟩
theorem q9 (B:Nat) (ts:List Tm) (n:ByteArray) (w:World) (h:eS w B ts):
  Calls Tryz.prog 177 #[.slice (some ⟨B,0,none⟩) ts.length ts.length,.string n] w fun e w'=>e=.returned (.string (bM ts n))∧Bel w w':=by
 have hl:=h.len;obtain⟨R,hR⟩:∃ R,R=bM ts n:=⟨_,rfl⟩
 have HR:=hid hR;rw[← hR];clear hR;go_enter Tryz.func177,Tryz.ntmps177
 go_wp2;go_loopw [9] (fun i wr=>∃ k:Nat,k≤ts.length∧i=.int .i64 k∧bM (ts.drop k) n=R∧Bel w wr) (fun i _=>ts.length - (intOf i).toNat)
 case atStart=>exact⟨0,nz,rfl,HR.out.symm,br⟩
 case round=>
  obtain⟨k,hk,rfl,hq,hW⟩:=hrel;have HQ:=hid hq;clear hq;by_cases aw:k<ts.length
  ·obtain⟨t,ht⟩:∃ t,t=ts.getD k Tm.none:=⟨_,rfl⟩
   have hc:=(h.later hW).at_ k aw;have hd:=pC ts n k aw;rw[← ht]at hc hd;obtain⟨c0,c1,_⟩:=hc;have HD:Hid (R=if (t.nm.toList==n.toList)=true then t.ov else bM (ts.drop (k+1)) n):=by show R=_;rw[← HQ.out,hd]
   clear hd ht;cases hn:(t.nm.toList==n.toList)
   ·have HE:Hid (bM (ts.drop (k+1)) n=R):=by have:=HD.out;rw[hn]at this;exact this.symm
    clear h;go_wp2;go_roundw
    case rel=>exact⟨k+1,by omega,by go_num,HE.out,ab hW _⟩
    case measure=>simp[intOf];omega
   ·have HE:Hid (t.ov=R):=by have:=HD.out;rw[hn]at this;exact this.symm
    clear h;go_wp2;go_ret;exact⟨lL HE.out,ab hW _⟩
  ·have HE:Hid (R=ByteArray.empty):=by show R=_;rw[← HQ.out,nX ts n k (by omega)]
   clear h;go_wp2;go_ret;exact⟨lL HE.out.symm,hW⟩
theorem EF (B:Nat) (ts:List Tm) (a b:ByteArray) (w:World) (h:eS w B ts):
  Calls Tryz.prog 126 #[.slice (some ⟨B,0,none⟩) ts.length ts.length,.string a,.string b] w fun e w'=>e=.returned (.bool (under ts a b))∧w=w':=by
 have HS:=hid h;have hl:=h.len;clear h;cases hab:(a.toList==b.toList)
 case true=>
  have HR:Hid (under ts a b=true):=by show under ts a b=true;rw[under,hab];rfl
  go_enter Tryz.func126,Tryz.ntmps126
  go_wp2;go_ret;exact⟨Pl.ae HR.out.symm,rfl⟩
 obtain⟨R,hR⟩:∃ R,R=under ts a b:=⟨_,rfl⟩
 have HR:Hid (lS ts 4 a b=R):=by show _=R;rw[hR,under,hab];rfl
 rw[← hR];clear hR;go_enter Tryz.func126,Tryz.ntmps126
 go_wp2;clear hab;go_loop [1,7] (fun v i=>∃ (k:Nat) (x:ByteArray),k≤4∧i=.int .i64 k∧v=.string x∧lS ts (4 - k) x b=R) (fun _ i=>4 - (intOf i).toNat)
 case atStart=>exact⟨0,a,nz,rfl,rfl,HR.out⟩
 case round=>
  obtain⟨k,x,hk,rfl,rfl,hq⟩:=hrel;have HQ:=hid hq;clear hq;by_cases aw:k<4
  ·have HU:Hid (R=if Pl.aE (bM ts x)=true then false else if ((bM ts x).toList==b.toList)=true then true else lS ts (4 - (k+1)) (bM ts x) b):=by
    show R=_;rw[← HQ.out,show 4 - k=(4 - (k+1))+1 by omega,lS]
   clear HQ;go_wp2_with fail
   refine(iz B ts x w HS.out).mono ?_;rintro e w' ⟨rfl,rfl⟩;obtain⟨y,hy⟩:∃ y,y=bM ts x:=⟨_,rfl⟩
   rw[← hy]at HU ⊢;clear hy;cases he:y.toList.isEmpty
   ·cases hb:(y.toList==b.toList)
    ·have HE:Hid (lS ts (4 - (k+1)) y b=R):=by have:=HU.out;rw[Pl.aE,he,hb]at this;exact this.symm
     go_wp2;go_round
     case rel=>exact⟨k+1,y,by omega,by go_num,rfl,HE.out⟩
     case measure=>simp[intOf];omega
    ·have HE:Hid (true=R):=by have:=HU.out;rw[Pl.aE,he,hb]at this;exact this.symm
     go_wp2;go_ret;exact⟨Pl.ae HE.out,rfl⟩
   ·have HE:Hid (false=R):=by have:=HU.out;rw[Pl.aE,he]at this;exact this.symm
    go_wp2;go_ret;exact⟨Pl.ae HE.out,rfl⟩
  ·have HE:Hid (false=R):=by show false=R;rw[← HQ.out,show 4 - k=0 by omega,lS]
   go_wp2;go_ret;exact⟨Pl.ae HE.out,rfl⟩
theorem EC (B:Nat) (ts:List Tm) (a b:ByteArray) (w:World) (h:eS w B ts):
  Calls Tryz.prog 157 #[.slice (some ⟨B,0,none⟩) ts.length ts.length,.string a,.string b] w fun e w'=>e=.returned (.bool (under ts a b))∧Bel w w':=by
 have HS:=hid h;have hl:=h.len;clear h;cases hab:(a.toList==b.toList)
 case true=>
  have HR:Hid (under ts a b=true):=by show under ts a b=true;rw[under,hab];rfl
  go_enter Tryz.func157,Tryz.ntmps157
  go_wp2;go_ret;exact⟨Pl.ae HR.out.symm,br⟩
 obtain⟨R,hR⟩:∃ R,R=under ts a b:=⟨_,rfl⟩
 have HR:Hid (lS ts 4 a b=R):=by show _=R;rw[hR,under,hab];rfl
 rw[← hR];clear hR;go_enter Tryz.func157,Tryz.ntmps157
 go_wp2;clear hab;go_loopw [1,10] (fun v i wr=>∃ (k:Nat) (x:ByteArray),k≤4∧i=.int .i64 k∧v=.string x∧lS ts (4 - k) x b=R∧Bel w wr) (fun _ i _=>4 - (intOf i).toNat)
 case atStart=>exact⟨0,a,nz,rfl,rfl,HR.out,br⟩
 case round=>
  obtain⟨k,x,hk,rfl,rfl,hq,hW⟩:=hrel;have HQ:=hid hq;clear hq;by_cases aw:k<4
  ·have HU:Hid (R=if Pl.aE (bM ts x)=true then false else if ((bM ts x).toList==b.toList)=true then true else lS ts (4 - (k+1)) (bM ts x) b):=by
    show R=_;rw[← HQ.out,show 4 - k=(4 - (k+1))+1 by omega,lS]
   clear HQ;go_wp2_with fail
   refine(q9 B ts x wr (HS.out.later hW)).mono ?_;rintro e w' ⟨rfl,aA⟩;have sT:=aa hW aA;clear aA;obtain⟨y,hy⟩:∃ y,y=bM ts x:=⟨_,rfl⟩
   rw[← hy]at HU ⊢;clear hy;cases he:y.toList.isEmpty
   ·cases hb:(y.toList==b.toList)
    ·have HE:Hid (lS ts (4 - (k+1)) y b=R):=by have:=HU.out;rw[Pl.aE,he,hb]at this;exact this.symm
     go_wp2;go_roundw
     case rel=>exact⟨k+1,y,by omega,by go_num,rfl,HE.out,sT⟩
     case measure=>simp[intOf];omega
    ·have HE:Hid (true=R):=by have:=HU.out;rw[Pl.aE,he,hb]at this;exact this.symm
     go_wp2;go_ret;exact⟨Pl.ae HE.out,sT⟩
   ·have HE:Hid (false=R):=by have:=HU.out;rw[Pl.aE,he]at this;exact this.symm
    go_wp2;go_ret;exact⟨Pl.ae HE.out,sT⟩
  ·have HE:Hid (false=R):=by show false=R;rw[← HQ.out,show 4 - k=0 by omega,lS]
   go_wp2;go_ret;exact⟨Pl.ae HE.out,hW⟩
theorem iu (B:Nat) (ts:List Tm) (n:ByteArray) (w:World) (h:eS w B ts):
  Calls Tryz.prog 62 #[.slice (some ⟨B,0,none⟩) ts.length ts.length,.string n] w fun e w'=>e=.returned (.bool (bA ts n))∧w=w':=by
 have hl:=h.len;obtain⟨R,hR⟩:∃ R,R=bA ts n:=⟨_,rfl⟩
 have HR:=hid hR;rw[← hR];clear hR;go_enter Tryz.func62,Tryz.ntmps62
 go_wp2;go_loop [5] (fun i=>∃ k:Nat,k≤ts.length∧i=.int .i64 k∧bA (ts.take k) n=false) (fun i=>ts.length - (intOf i).toNat)
 case atStart=>exact⟨0,nz,rfl,rfl⟩
 case round=>
  obtain⟨k,hk,rfl,hq⟩:=hrel;have HQ:=hid hq;clear hq;by_cases aw:k<ts.length
  ·obtain⟨t,ht⟩:∃ t,t=ts.getD k Tm.none:=⟨_,rfl⟩
   have hc:=h.at_ k aw;rw[← ht]at hc;obtain⟨c0,c1,_⟩:=hc;cases hn:(t.nm.toList==n.toList)
   ·have HE:=hid (mK ts n k aw HQ.out (by rw[← ht];exact hn));clear ht h;go_wp2;go_round
    case rel=>exact⟨k+1,by omega,by go_num,HE.out⟩
    case measure=>simp[intOf];omega
   ·have HE:Hid (R=true):=by show R=true;rw[HR.out];exact nJ ts n k aw (by rw[← ht];exact hn)
    clear ht h;go_wp2;go_ret;exact⟨Pl.ae HE.out.symm,rfl⟩
  ·have HE:Hid (R=false):=by show R=false;rw[HR.out];exact nF ts n k (by omega) HQ.out
   clear h;go_wp2;go_ret;exact⟨Pl.ae HE.out.symm,rfl⟩
theorem BU (rb:Nat) (t:Tm) (n:ByteArray) (w:World) (hc:w.cell? ⟨rb,0,none⟩=some (.string n)) (aw:rb<w.heap.size):
  Calls Tryz.prog 148 #[.agg #[.string t.nm,.string t.ov],.pointer (some ⟨rb,0,none⟩)] w fun e w'=>e=.returned (.bool (t.nm.toList==n.toList))∧Bel w w':=by
 go_enter Tryz.func148,Tryz.ntmps148
 go_wp2;go_ret;exact⟨rfl,ab br _⟩
theorem DQ (rb B:Nat) (ts:List Tm) (n:ByteArray) (w:World) (h:eS w B ts) (hc:w.cell? ⟨rb,0,none⟩=some (.string n)) (AT:rb<w.heap.size):
  Calls Tryz.prog 189 #[.slice (some ⟨B,0,none⟩) ts.length ts.length,.func (.func 148) #[] #[.pointer (some ⟨rb,0,none⟩)]] w fun e w'=>(∃ r:Int,e=.returned (.int .i64 r)∧decide (0≤r)=bA ts n)∧Bel w w':=by
 have HC:=hid (And.intro h (And.intro hc AT));have hl:=h.len;obtain⟨R,hR⟩:∃ R,R=bA ts n:=⟨_,rfl⟩
 have HR:=hid hR;rw[← hR];clear hR h hc AT;go_enter Tryz.func189,Tryz.ntmps189
 go_wp2;go_loopw [8] (fun i wr=>∃ k:Nat,k≤ts.length∧i=.int .i64 k∧bA (ts.take k) n=false∧Bel w wr) (fun i _=>ts.length - (intOf i).toNat)
 case atStart=>exact⟨0,nz,rfl,rfl,br⟩
 case round=>
  obtain⟨k,hk,rfl,hq,hW⟩:=hrel;have HQ:=hid hq;clear hq;by_cases aw:k<ts.length
  ·obtain⟨t,ht⟩:∃ t,t=ts.getD k Tm.none:=⟨_,rfl⟩
   have hc:=(HC.out.1.later hW).at_ k aw;have Bq:=lo HC.out.1.lt hW.size;rw[← ht]at hc;obtain⟨c0,c1,_⟩:=hc;have HX:Hid (Calls Tryz.prog 148 #[.agg #[.string t.nm,.string t.ov],.pointer (some ⟨rb,0,none⟩)] wr fun e w'=>e=.returned (.bool (t.nm.toList==n.toList))∧Bel wr w'):=
    BU rb t n wr ((hW.cell (p:=⟨rb,0,none⟩) HC.out.2.2).trans HC.out.2.1) (lo HC.out.2.2 hW.size)
   have HG:=hid ht;clear ht;go_wp2_with fail
   refine HX.out.mono ?_;rintro e w2 ⟨rfl,aA⟩;have bF:=aa hW aA;clear aA c0 c1 Bq HX;cases hn:(t.nm.toList==n.toList)
   ·have HE:=hid (mK ts n k aw HQ.out (by rw[← HG.out];exact hn));go_wp2;go_roundw
    case rel=>exact⟨k+1,by omega,by go_num,HE.out,bF⟩
    case measure=>simp[intOf];omega
   ·have HE:Hid (R=true):=by show R=true;rw[HR.out];exact nJ ts n k aw (by rw[← HG.out];exact hn)
    go_wp2;go_ret;exact⟨⟨_,rfl,by rw[HE.out];simp⟩,bF⟩
  ·have HE:Hid (R=false):=by show R=false;rw[HR.out];exact nF ts n k (by omega) HQ.out
   go_wp2;go_ret;exact⟨⟨_,rfl,by rw[HE.out];simp⟩,hW⟩
theorem xh (rb B:Nat) (ts:List Tm) (n:ByteArray) (w:World) (h:eS w B ts) (hc:w.cell? ⟨rb,0,none⟩=some (.string n)) (AT:rb<w.heap.size):
  Calls Tryz.prog 147 #[.slice (some ⟨B,0,none⟩) ts.length ts.length,.func (.func 148) #[] #[.pointer (some ⟨rb,0,none⟩)]] w fun e w'=>e=.returned (.bool (bA ts n))∧Bel w w':=by
 have HX:=hid (DQ rb B ts n w h hc AT);clear h hc AT;go_enter Tryz.func147,Tryz.ntmps147
 go_wp2_with fail
 refine HX.out.mono ?_;rintro e w' ⟨⟨r,rfl,hr⟩,hb⟩;have HR:=hid hr;clear hr;go_wp2;go_ret;exact⟨Pl.ae HR.out,hb⟩
theorem jA (B:Nat) (ts:List Tm) (n:ByteArray) (w:World) (h:eS w B ts):
  Calls Tryz.prog 93 #[.slice (some ⟨B,0,none⟩) ts.length ts.length,.string n] w fun e w'=>e=.returned (.bool (bA ts n))∧Bel w w':=by
 have cJ:Bel w (w.alloc (.cells #[.string n] 9)):=ab br _;have HX:Hid (Calls Tryz.prog 147 #[.slice (some ⟨B,0,none⟩) ts.length ts.length,.func (.func 148) #[] #[.pointer (some ⟨w.heap.size,0,none⟩)]] (w.alloc (.cells #[.string n] 9)) fun e w'=>e=.returned (.bool (bA ts n))∧Below (w.alloc (.cells #[.string n] 9)).heap.size (w.alloc (.cells #[.string n] 9)) w'):=
  xh w.heap.size B ts n _ (h.later cJ) (by simp) (by simp)
 have HB:=hid cJ;clear h cJ;go_enter Tryz.func93,Tryz.ntmps93
 go_wp2_with fail
 refine HX.out.mono ?_;rintro e w2 ⟨rfl,aA⟩;have bF:=aa HB.out aA;clear aA;go_wp2;go_ret;exact⟨rfl,bF⟩
theorem jv (B:Nat) (ts:List Tm) (a:ByteArray) (w:World) (h:eS w B ts):
  Calls Tryz.prog 136 #[.slice (some ⟨B,0,none⟩) ts.length ts.length,.string a] w fun e w'=>(∃ r:Int,e=.returned (.int .i64 r)∧0≤r∧r≤5∧decide (4<r)= !high ts 5 a)∧Bel w w':=by
 have HS:=hid h;have hl:=h.len;clear h;obtain⟨R,hR⟩:∃ R,R=high ts 5 a:=⟨_,rfl⟩
 have HR:=hid hR;rw[← hR];clear hR;go_enter Tryz.func136,Tryz.ntmps136
 go_wp2;go_loopw [1,6] (fun v i wr=>∃ (k:Nat) (x:ByteArray),k≤5∧i=.int .i64 k∧v=.string x∧high ts (5 - k) x=R∧Bel w wr) (fun _ i _=>5 - (intOf i).toNat)
 case atStart=>exact⟨0,a,nz,rfl,rfl,HR.out.symm,br⟩
 case round=>
  obtain⟨k,x,hk,rfl,rfl,hq,hW⟩:=hrel;have HQ:=hid hq;clear hq;by_cases aw:k<5
  ·have HU:Hid (R=if Pl.aE (bM ts x)=true then true else high ts (5 - (k+1)) (bM ts x)):=by
    show R=_;rw[← HQ.out,show 5 - k=(5 - (k+1))+1 by omega,high]
   clear HQ;go_wp2_with fail
   refine(q9 B ts x wr (HS.out.later hW)).mono ?_;rintro e w' ⟨rfl,aA⟩;have sT:=aa hW aA;clear aA;obtain⟨y,hy⟩:∃ y,y=bM ts x:=⟨_,rfl⟩
   rw[← hy]at HU ⊢;clear hy;cases he:y.toList.isEmpty
   ·have HE:Hid (high ts (5 - (k+1)) y=R):=by have:=HU.out;rw[Pl.aE,he]at this;exact this.symm
    go_wp2;go_roundw
    case rel=>exact⟨k+1,y,by omega,by go_num,rfl,HE.out,sT⟩
    case measure=>simp[intOf];omega
   ·have HE:Hid (R=true):=by have:=HU.out;rw[Pl.aE,he]at this;exact this
    go_wp2;go_ret;exact⟨⟨_,rfl,by omega,by omega,by rw[HE.out];simp;omega⟩,sT⟩
  ·have HE:Hid (R=false):=by show R=false;rw[← HQ.out,show 5 - k=0 by omega,high]
   go_wp2;go_ret;exact⟨⟨_,rfl,by omega,by omega,by rw[HE.out];rfl⟩,hW⟩
theorem dJ (s:ByteArray) (w:World) (hs:s.size≤maxLen):
  Calls Tryz.prog 68 #[.string s] w fun e w'=>e=.returned (.bool (Pl.aq s))∧w'=w:=(aH s w hs).mono fun _ _ h=>⟨h.1,h.2.symm⟩
theorem eM (s:ByteArray) (w:World) (hs:s.size≤maxLen):
  Calls Tryz.prog 89 #[.string s] w fun e w'=>e=.returned (.bool (Pl.aq s))∧w'=w:=(aK s w hs).mono fun _ _ h=>⟨h.1,h.2.symm⟩
theorem eh (B:Nat) (ts:List Tm) (n:ByteArray) (w:World) (h:eS w B ts):
  Calls Tryz.prog 62 #[.slice (some ⟨B,0,none⟩) ts.length ts.length,.string n] w fun e w'=>e=.returned (.bool (bA ts n))∧w'=w:=(iu B ts n w h).mono fun _ _ h=>⟨h.1,h.2.symm⟩
def iq (ts:List Tm) (nm:ByteArray) (k:Nat) (x:ByteArray):Prop:=(x.toList.isEmpty=true→high ts 5 nm=true)∧(x.toList.isEmpty=false→high ts (5 - k) x=high ts 5 nm)
theorem iR {ts:List Tm} {nm:ByteArray} {k:Nat} {x:ByteArray} (h:iq ts nm k x) (hk:k<5) (he:x.toList.isEmpty=false):iq ts nm (k+1) (bM ts x):=by
 have h2:=h.2 he;rw[show 5 - k=(5 - (k+1))+1 by omega,high]at h2;constructor
 ·intro e;rw[Pl.aE,e]at h2;exact h2.symm
 ·intro e;rw[Pl.aE,e]at h2;exact h2
theorem ju {ts:List Tm} {nm:ByteArray} {k:Nat} {x:ByteArray} (h:iq ts nm k x) (hk:¬ k<5) (he:x.toList.isEmpty=false):high ts 5 nm=false:=by
 have h2:=h.2 he;rw[show 5 - k=0 by omega,high]at h2;exact h2.symm
theorem pD {ts:List Tm} {k:Nat} {t:Tm} (ht:t=ts.getD k Tm.none) (P:Bool) (hP:P=(decide (k=0)||Pl.less (ts.getD (k - 1) Tm.none).nm t.nm)):
  k8 ts k=(Pl.aq t.nm&&P&&(t.ov.toList.isEmpty||bA ts t.ov)&&high ts 5 t.nm):=by
 rw[k8,← ht,hP];rfl
theorem yT (B:Nat) (ts:List Tm) (w:World) (h:eS w B ts):
  Calls Tryz.prog 60 #[.slice (some ⟨B,0,none⟩) ts.length ts.length] w fun e w'=>e=.returned (.bool (dG ts))∧Bel w w':=by
 have HS:=hid h;have hl:=h.len;clear h;by_cases jr:ts.length≤12
 case neg=>
  have HR:Hid (dG ts=false):=by show dG ts=_;simp[dG,jr]
  go_enter Tryz.func60,Tryz.ntmps60
  go_wp2;go_ret;exact⟨Pl.ae HR.out.symm,br⟩
 obtain⟨R,hR⟩:∃ R,R=dG ts:=⟨_,rfl⟩
 have HR:=hid hR;rw[← hR];clear hR;go_enter Tryz.func60,Tryz.ntmps60
 go_wp2;go_loopw [3] (fun i wr=>∃ k:Nat,k≤ts.length∧i=.int .i64 k∧eK ts k=true∧Bel w wr) (fun i _=>ts.length - (intOf i).toNat)
 case atStart=>exact⟨0,nz,rfl,rfl,br⟩
 case round=>
  obtain⟨k,hk,rfl,av,hW⟩:=hrel;obtain⟨wo,rfl⟩:∃ wo:World,wo=wr:=⟨_,rfl⟩
  have HA:=hid av;clear av;by_cases aw:k<ts.length
  ·obtain⟨t,ht⟩:∃ t,t=ts.getD k Tm.none:=⟨_,rfl⟩
   have hc:=(HS.out.later hW).at_ k aw;rw[← ht]at hc;obtain⟨c0,c1,eQ⟩:=hc;have HN:=hid eQ;have cJ:Bel wo (wo.alloc (.cells #[.string t.nm,.string t.ov] 138)):=ab br _;have HX:Hid (∀ W,Bel wo W→eS W B ts):=fun W sT=>(HS.out.later hW).later sT;have HF:Hid (k8 ts k=false→R=false):=fun hf=>by rw[HR.out];exact kO aw hf
   have hp:∃ P:Bool,P=(decide (k=0)||Pl.less (ts.getD (k - 1) Tm.none).nm t.nm)∧((k=0∧P=true)∨∃ (m:Nat) (p:ByteArray),k=m+1∧wo.cell? ⟨B,m*2,none⟩=some (.string p)∧Op.bytesLess p.toList t.nm.toList=P):=by
    refine⟨_,rfl, ?_⟩;by_cases h0:k=0
    ·exact Or.inl ⟨h0,by simp[h0]⟩
    ·refine Or.inr ⟨k - 1,(ts.getD (k - 1) Tm.none).nm,by omega,((HS.out.later hW).at_ (k - 1) (by omega)).c0,by simp[h0,Pl.less]⟩
   obtain⟨P,hP,A3⟩:=hp;have HT:=hid (pD ht P hP);clear hP ht eQ;rcases A3 with⟨rfl,rfl⟩|⟨m,p,rfl,mx,hq⟩
   ·cases hn:Pl.aq t.nm
    ·have HE:=hid (HF.out (by rw[HT.out,hn];rfl));go_wp2_with fail
     go_quiet (first|(go_at_call 68;exact Calls.quiet_of_same (dJ _ _ HN.out.1))|(go_at_call 62;refine Calls.quiet_of_same (eh B ts t.ov _ (HX.out _ ?_));first|exact cJ|exact al cJ _))
     go_wp2;go_ret;exact⟨Pl.ae HE.out.symm,al (aa hW cJ) _⟩
    ·cases he:t.ov.toList.isEmpty
     ·cases hi:bA ts t.ov
      ·have HE:=hid (HF.out (by rw[HT.out,he,hi];simp));go_wp2_with fail
       go_quiet (first|(go_at_call 68;exact Calls.quiet_of_same (dJ _ _ HN.out.1))|(go_at_call 62;refine Calls.quiet_of_same (eh B ts t.ov _ (HX.out _ ?_));first|exact cJ|exact al cJ _))
       go_wp2;go_ret;exact⟨Pl.ae HE.out.symm,al (aa hW cJ) _⟩
      ·have xW:(t.ov.toList.isEmpty||bA ts t.ov)=true:=by rw[hi];simp
       have HK:Hid (high ts 5 t.nm=true→eK ts (0+1)=true):=fun hh=>ef HA.out (by rw[HT.out,hn,hh,he,hi];simp);have qU:Hid (iq ts t.nm 0 t.nm):=⟨fun e=>(by rw[Pl.kt hn]at e;cases e),fun _=>rfl⟩
       have HJ:Hid (high ts 5 t.nm=false→R=false):=fun hh=>HF.out (by rw[HT.out,hh];simp);go_wp2_with fail
       go_quiet (first|(go_at_call 68;exact Calls.quiet_of_same (dJ _ _ HN.out.1))|(go_at_call 62;refine Calls.quiet_of_same (eh B ts t.ov _ (HX.out _ ?_));first|exact cJ|exact al cJ _))
       go_wp2;clear hn xW he hi;go_loop [5,6] (fun v i=>∃ (q:Nat) (x:ByteArray),q≤5∧i=.int .i64 q∧v=.string x∧iq ts t.nm q x) (fun _ i=>5 - (intOf i).toNat)
       case atStart=>exact⟨0,t.nm,nz,rfl,rfl,qU.out⟩
       case round=>
        obtain⟨q,x,LI,rfl,rfl,sP⟩:=hrel;have uX:=hid sP;clear sP;cases hx:x.toList.isEmpty
        ·by_cases hlq:q<5
         ·have gS:=hid (iR uX.out hlq hx);go_wp2_with fail
          refine(iz B ts x _ (HX.out _ (al cJ _))).mono ?_;rintro e w' ⟨rfl,rfl⟩;clear hx;go_wp2;go_round
          case rel=>first|exact⟨q+1,_,by omega,by go_num,rfl,gS.out⟩|((repeat apply Exists.intro);exact⟨⟨q+1,_,by omega,by go_num,rfl,gS.out⟩,rfl⟩)|(refine⟨trivial, ?_⟩;(repeat apply Exists.intro);exact⟨⟨q+1,_,by omega,by go_num,rfl,gS.out⟩,rfl⟩)
          case measure=>simp[intOf];omega
         ·have HE:=hid (HJ.out (ju uX.out hlq hx));go_wp2;go_ret;exact⟨Pl.ae HE.out.symm,al (aa hW cJ) _⟩
        ·have HE:=hid (HK.out (uX.out.1 hx));by_cases hlq:q<5
         all_goals
          go_wp2;go_roundw
          case rel=>first|exact⟨0+1,by omega,by go_num,HE.out,al (aa hW cJ) _⟩|((repeat apply Exists.intro);exact⟨⟨0+1,by omega,by go_num,HE.out,al (aa hW cJ) _⟩,rfl⟩)
          case measure=>simp[intOf];omega
     ·have xW:(t.ov.toList.isEmpty||bA ts t.ov)=true:=by rw[he];rfl
      have HK:Hid (high ts 5 t.nm=true→eK ts (0+1)=true):=fun hh=>ef HA.out (by rw[HT.out,hn,hh,he];simp);have qU:Hid (iq ts t.nm 0 t.nm):=⟨fun e=>(by rw[Pl.kt hn]at e;cases e),fun _=>rfl⟩
      have HJ:Hid (high ts 5 t.nm=false→R=false):=fun hh=>HF.out (by rw[HT.out,hh];simp);go_wp2_with fail
      go_quiet (first|(go_at_call 68;exact Calls.quiet_of_same (dJ _ _ HN.out.1))|(go_at_call 62;refine Calls.quiet_of_same (eh B ts t.ov _ (HX.out _ ?_));first|exact cJ|exact al cJ _))
      go_wp2;clear hn xW he;go_loop [5,6] (fun v i=>∃ (q:Nat) (x:ByteArray),q≤5∧i=.int .i64 q∧v=.string x∧iq ts t.nm q x) (fun _ i=>5 - (intOf i).toNat)
      case atStart=>exact⟨0,t.nm,nz,rfl,rfl,qU.out⟩
      case round=>
       obtain⟨q,x,LI,rfl,rfl,sP⟩:=hrel;have uX:=hid sP;clear sP;cases hx:x.toList.isEmpty
       ·by_cases hlq:q<5
        ·have gS:=hid (iR uX.out hlq hx);go_wp2_with fail
         refine(iz B ts x _ (HX.out _ (al cJ _))).mono ?_;rintro e w' ⟨rfl,rfl⟩;clear hx;go_wp2;go_round
         case rel=>first|exact⟨q+1,_,by omega,by go_num,rfl,gS.out⟩|((repeat apply Exists.intro);exact⟨⟨q+1,_,by omega,by go_num,rfl,gS.out⟩,rfl⟩)|(refine⟨trivial, ?_⟩;(repeat apply Exists.intro);exact⟨⟨q+1,_,by omega,by go_num,rfl,gS.out⟩,rfl⟩)
         case measure=>simp[intOf];omega
        ·have HE:=hid (HJ.out (ju uX.out hlq hx));go_wp2;go_ret;exact⟨Pl.ae HE.out.symm,al (aa hW cJ) _⟩
       ·have HE:=hid (HK.out (uX.out.1 hx));by_cases hlq:q<5
        all_goals
         go_wp2;go_roundw
         case rel=>first|exact⟨0+1,by omega,by go_num,HE.out,al (aa hW cJ) _⟩|((repeat apply Exists.intro);exact⟨⟨0+1,by omega,by go_num,HE.out,al (aa hW cJ) _⟩,rfl⟩)
         case measure=>simp[intOf];omega
   ·have FW:=lo HS.out.lt hW.size;have DM:decide ((m:Int)+1<(ts.length:Int))=true:=by simp;omega
    cases hn:Pl.aq t.nm
    ·have HE:=hid (HF.out (by rw[HT.out,hn];rfl));go_wp2_with fail
     go_quiet (first|(go_at_call 68;exact Calls.quiet_of_same (dJ _ _ HN.out.1))|(go_at_call 62;refine Calls.quiet_of_same (eh B ts t.ov _ (HX.out _ ?_));first|exact cJ|exact al cJ _))
     go_wp2;go_ret;exact⟨Pl.ae HE.out.symm,al (aa hW cJ) _⟩
    ·cases P
     ·have HE:=hid (HF.out (by rw[HT.out];simp));go_wp2_with fail
      go_quiet (first|(go_at_call 68;exact Calls.quiet_of_same (dJ _ _ HN.out.1))|(go_at_call 62;refine Calls.quiet_of_same (eh B ts t.ov _ (HX.out _ ?_));first|exact cJ|exact al cJ _))
      go_wp2;go_ret;exact⟨Pl.ae HE.out.symm,al (aa hW cJ) _⟩
     ·cases he:t.ov.toList.isEmpty
      ·cases hi:bA ts t.ov
       ·have HE:=hid (HF.out (by rw[HT.out,he,hi];simp));go_wp2_with fail
        go_quiet (first|(go_at_call 68;exact Calls.quiet_of_same (dJ _ _ HN.out.1))|(go_at_call 62;refine Calls.quiet_of_same (eh B ts t.ov _ (HX.out _ ?_));first|exact cJ|exact al cJ _))
        go_wp2;go_ret;exact⟨Pl.ae HE.out.symm,al (aa hW cJ) _⟩
       ·have xW:(t.ov.toList.isEmpty||bA ts t.ov)=true:=by rw[hi];simp
        have HK:Hid (high ts 5 t.nm=true→eK ts ((m+1)+1)=true):=fun hh=>ef HA.out (by rw[HT.out,hn,hh,he,hi];simp);have qU:Hid (iq ts t.nm 0 t.nm):=⟨fun e=>(by rw[Pl.kt hn]at e;cases e),fun _=>rfl⟩
        have HJ:Hid (high ts 5 t.nm=false→R=false):=fun hh=>HF.out (by rw[HT.out,hh];simp);go_wp2_with fail
        go_quiet (first|(go_at_call 68;exact Calls.quiet_of_same (dJ _ _ HN.out.1))|(go_at_call 62;refine Calls.quiet_of_same (eh B ts t.ov _ (HX.out _ ?_));first|exact cJ|exact al cJ _))
        go_wp2;clear hn xW mx hq he hi;go_loop [5,6] (fun v i=>∃ (q:Nat) (x:ByteArray),q≤5∧i=.int .i64 q∧v=.string x∧iq ts t.nm q x) (fun _ i=>5 - (intOf i).toNat)
        case atStart=>exact⟨0,t.nm,nz,rfl,rfl,qU.out⟩
        case round=>
         obtain⟨q,x,LI,rfl,rfl,sP⟩:=hrel;have uX:=hid sP;clear sP;cases hx:x.toList.isEmpty
         ·by_cases hlq:q<5
          ·have gS:=hid (iR uX.out hlq hx);go_wp2_with fail
           refine(iz B ts x _ (HX.out _ (al cJ _))).mono ?_;rintro e w' ⟨rfl,rfl⟩;clear hx;go_wp2;go_round
           case rel=>first|exact⟨q+1,_,by omega,by go_num,rfl,gS.out⟩|((repeat apply Exists.intro);exact⟨⟨q+1,_,by omega,by go_num,rfl,gS.out⟩,rfl⟩)|(refine⟨trivial, ?_⟩;(repeat apply Exists.intro);exact⟨⟨q+1,_,by omega,by go_num,rfl,gS.out⟩,rfl⟩)
           case measure=>simp[intOf];omega
          ·have HE:=hid (HJ.out (ju uX.out hlq hx));go_wp2;go_ret;exact⟨Pl.ae HE.out.symm,al (aa hW cJ) _⟩
         ·have HE:=hid (HK.out (uX.out.1 hx));by_cases hlq:q<5
          all_goals
           go_wp2;go_roundw
           case rel=>first|exact⟨(m+1)+1,by omega,by go_num,HE.out,al (aa hW cJ) _⟩|((repeat apply Exists.intro);exact⟨⟨(m+1)+1,by omega,by go_num,HE.out,al (aa hW cJ) _⟩,rfl⟩)
           case measure=>simp[intOf];omega
      ·have xW:(t.ov.toList.isEmpty||bA ts t.ov)=true:=by rw[he];rfl
       have HK:Hid (high ts 5 t.nm=true→eK ts ((m+1)+1)=true):=fun hh=>ef HA.out (by rw[HT.out,hn,hh,he];simp);have qU:Hid (iq ts t.nm 0 t.nm):=⟨fun e=>(by rw[Pl.kt hn]at e;cases e),fun _=>rfl⟩
       have HJ:Hid (high ts 5 t.nm=false→R=false):=fun hh=>HF.out (by rw[HT.out,hh];simp);go_wp2_with fail
       go_quiet (first|(go_at_call 68;exact Calls.quiet_of_same (dJ _ _ HN.out.1))|(go_at_call 62;refine Calls.quiet_of_same (eh B ts t.ov _ (HX.out _ ?_));first|exact cJ|exact al cJ _))
       go_wp2;clear hn xW mx hq he;go_loop [5,6] (fun v i=>∃ (q:Nat) (x:ByteArray),q≤5∧i=.int .i64 q∧v=.string x∧iq ts t.nm q x) (fun _ i=>5 - (intOf i).toNat)
       case atStart=>exact⟨0,t.nm,nz,rfl,rfl,qU.out⟩
       case round=>
        obtain⟨q,x,LI,rfl,rfl,sP⟩:=hrel;have uX:=hid sP;clear sP;cases hx:x.toList.isEmpty
        ·by_cases hlq:q<5
         ·have gS:=hid (iR uX.out hlq hx);go_wp2_with fail
          refine(iz B ts x _ (HX.out _ (al cJ _))).mono ?_;rintro e w' ⟨rfl,rfl⟩;clear hx;go_wp2;go_round
          case rel=>first|exact⟨q+1,_,by omega,by go_num,rfl,gS.out⟩|((repeat apply Exists.intro);exact⟨⟨q+1,_,by omega,by go_num,rfl,gS.out⟩,rfl⟩)|(refine⟨trivial, ?_⟩;(repeat apply Exists.intro);exact⟨⟨q+1,_,by omega,by go_num,rfl,gS.out⟩,rfl⟩)
          case measure=>simp[intOf];omega
         ·have HE:=hid (HJ.out (ju uX.out hlq hx));go_wp2;go_ret;exact⟨Pl.ae HE.out.symm,al (aa hW cJ) _⟩
        ·have HE:=hid (HK.out (uX.out.1 hx));by_cases hlq:q<5
         all_goals
          go_wp2;go_roundw
          case rel=>first|exact⟨(m+1)+1,by omega,by go_num,HE.out,al (aa hW cJ) _⟩|((repeat apply Exists.intro);exact⟨⟨(m+1)+1,by omega,by go_num,HE.out,al (aa hW cJ) _⟩,rfl⟩)
          case measure=>simp[intOf];omega
  ·have HE:Hid (R=true):=by
    show R=true;obtain rfl:k=ts.length:=by omega
    rw[HR.out,dG,HA.out];simp[jr]
   go_wp2;go_ret;exact⟨Pl.ae HE.out.symm,hW⟩
end Go.Proofs.YtbiokpmdghmgcaaGreat
