import Derived.Deep.DeepCutAuto
import Derived.BigQuiet
import Derived.Deep.RegionWith
import Derived.Test.YtbiokpmdghmgcaaGreatBin
import Derived.Test.YtbiokpmdghmgcaaGreatWalkDR
namespace Go.Proofs.YtbiokpmdghmgcaaGreat
set_option maxHeartbeats 40000000
open Go.RowKit Go.Deep
theorem lY {a b:ByteArray} (h:a=b):Ending.returned (.string a)=.returned (.string b):=by rw[h]
theorem iu (B:Nat) (ts:List Tm) (n:ByteArray) (w:World) (h:eB w B ts):
  Calls Tryz.prog 118 #[.slice (some ⟨B,0,none⟩) ts.length ts.length,.string n] w fun e w'=>e=.returned (.string (bN ts n))∧w=w':=by
 have hl:=h.len;obtain⟨R,hR⟩:∃ R,R=bN ts n:=⟨_,rfl⟩
 have HR:=hid hR;rw[← hR];clear hR;go_enter Tryz.func118,Tryz.ntmps118
 go_wp2;go_loop [5] (fun i=>∃ k:Nat,k≤ts.length∧i=.int .i64 k∧bN (ts.drop k) n=R) (fun i=>ts.length - (intOf i).toNat)
 case atStart=>exact⟨0,nz,rfl,HR.out.symm⟩
 case round=>
  obtain⟨k,hk,rfl,hq⟩:=hrel;have HQ:=hid hq;clear hq;by_cases av:k<ts.length
  ·obtain⟨t,ht⟩:∃ t,t=ts.getD k Tm.none:=⟨_,rfl⟩
   have hc:=h.at_ k av;have hd:=qo ts n k av;rw[← ht]at hc hd;obtain⟨c0,c1,_⟩:=hc;have HD:Hid (R=if (t.nm.toList==n.toList)=true then t.ov else bN (ts.drop (k+1)) n):=by show R=_;rw[← HQ.out,hd]
   clear hd ht h;cases hn:(t.nm.toList==n.toList)
   ·have HE:Hid (bN (ts.drop (k+1)) n=R):=by have:=HD.out;rw[hn]at this;exact this.symm
    go_wp2;go_round
    case rel=>exact⟨k+1,by omega,by go_num,HE.out⟩
    case measure=>simp[intOf];omega
   ·have HE:Hid (t.ov=R):=by have:=HD.out;rw[hn]at this;exact this.symm
    go_wp2;go_ret;exact⟨lY HE.out,rfl⟩
  ·have HE:Hid (R=ByteArray.empty):=by show R=_;rw[← HQ.out,oZ ts n k (by omega)]
   clear h;go_wp2;go_ret;exact⟨lY HE.out.symm,rfl⟩
theorem rN (B:Nat) (ts:List Tm) (n:ByteArray) (w:World) (h:eB w B ts):
  Calls Tryz.prog 177 #[.slice (some ⟨B,0,none⟩) ts.length ts.length,.string n] w fun e w'=>e=.returned (.string (bN ts n))∧Bel w w':=by
 have hl:=h.len;obtain⟨R,hR⟩:∃ R,R=bN ts n:=⟨_,rfl⟩
 have HR:=hid hR;rw[← hR];clear hR;go_enter Tryz.func177,Tryz.ntmps177
 go_wp2;go_loopw [9] (fun i wr=>∃ k:Nat,k≤ts.length∧i=.int .i64 k∧bN (ts.drop k) n=R∧Bel w wr) (fun i _=>ts.length - (intOf i).toNat)
 case atStart=>exact⟨0,nz,rfl,HR.out.symm,br⟩
 case round=>
  obtain⟨k,hk,rfl,hq,hW⟩:=hrel;have HQ:=hid hq;clear hq;by_cases av:k<ts.length
  ·obtain⟨t,ht⟩:∃ t,t=ts.getD k Tm.none:=⟨_,rfl⟩
   have hc:=(h.later hW).at_ k av;have hd:=qo ts n k av;rw[← ht]at hc hd;obtain⟨c0,c1,_⟩:=hc;have HD:Hid (R=if (t.nm.toList==n.toList)=true then t.ov else bN (ts.drop (k+1)) n):=by show R=_;rw[← HQ.out,hd]
   clear hd ht;cases hn:(t.nm.toList==n.toList)
   ·have HE:Hid (bN (ts.drop (k+1)) n=R):=by have:=HD.out;rw[hn]at this;exact this.symm
    clear h;go_wp2;go_roundw
    case rel=>exact⟨k+1,by omega,by go_num,HE.out,ab hW _⟩
    case measure=>simp[intOf];omega
   ·have HE:Hid (t.ov=R):=by have:=HD.out;rw[hn]at this;exact this.symm
    clear h;go_wp2;go_ret;exact⟨lY HE.out,ab hW _⟩
  ·have HE:Hid (R=ByteArray.empty):=by show R=_;rw[← HQ.out,oZ ts n k (by omega)]
   clear h;go_wp2;go_ret;exact⟨lY HE.out.symm,hW⟩
theorem uC (B:Nat) (ts:List Tm) (a b:ByteArray) (w:World) (h:eB w B ts):
  Calls Tryz.prog 126 #[.slice (some ⟨B,0,none⟩) ts.length ts.length,.string a,.string b] w fun e w'=>e=.returned (.bool (under ts a b))∧w=w':=by
 have HS:=hid h;have hl:=h.len;clear h;cases hab:(a.toList==b.toList)
 case true=>
  have HR:Hid (under ts a b=true):=by show _=_;rw[under,hab];rfl
  go_enter Tryz.func126,Tryz.ntmps126
  go_wp2;go_ret;exact⟨Pl.ae HR.out.symm,rfl⟩
 obtain⟨R,hR⟩:∃ R,R=under ts a b:=⟨_,rfl⟩
 have HR:Hid (ma ts 4 a b=R):=by show _=R;rw[hR,under,hab];rfl
 rw[← hR];clear hR;go_enter Tryz.func126,Tryz.ntmps126
 go_wp2;clear hab;go_loop [1,7] (fun v i=>∃ (k:Nat) (x:ByteArray),k≤4∧i=.int .i64 k∧v=.string x∧ma ts (4 - k) x b=R) (fun _ i=>4 - (intOf i).toNat)
 case atStart=>exact⟨0,a,nz,rfl,rfl,HR.out⟩
 case round=>
  obtain⟨k,x,hk,rfl,rfl,hq⟩:=hrel;have HQ:=hid hq;clear hq;by_cases av:k<4
  ·have HU:Hid (R=if Pl.aE (bN ts x)=true then false else if ((bN ts x).toList==b.toList)=true then true else ma ts (4 - (k+1)) (bN ts x) b):=by
    show R=_;rw[← HQ.out,show 4 - k=(4 - (k+1))+1 by omega,ma]
   clear HQ;go_wp2_with fail
   refine(iu B ts x w HS.out).mono ?_;rintro e w' ⟨rfl,rfl⟩;obtain⟨y,hy⟩:∃ y,y=bN ts x:=⟨_,rfl⟩
   rw[← hy]at HU ⊢;clear hy;cases he:y.toList.isEmpty
   ·cases hb:(y.toList==b.toList)
    ·have HE:Hid (ma ts (4 - (k+1)) y b=R):=by have:=HU.out;rw[Pl.aE,he,hb]at this;exact this.symm
     go_wp2;go_round
     case rel=>exact⟨k+1,y,by omega,by go_num,rfl,HE.out⟩
     case measure=>simp[intOf];omega
    ·have HE:Hid (true=R):=by have:=HU.out;rw[Pl.aE,he,hb]at this;exact this.symm
     go_wp2;go_ret;exact⟨Pl.ae HE.out,rfl⟩
   ·have HE:Hid (false=R):=by have:=HU.out;rw[Pl.aE,he]at this;exact this.symm
    go_wp2;go_ret;exact⟨Pl.ae HE.out,rfl⟩
  ·have HE:Hid (false=R):=by show _=_;rw[← HQ.out,show 4 - k=0 by omega,ma]
   go_wp2;go_ret;exact⟨Pl.ae HE.out,rfl⟩
theorem Ah (B:Nat) (ts:List Tm) (a b:ByteArray) (w:World) (h:eB w B ts):
  Calls Tryz.prog 157 #[.slice (some ⟨B,0,none⟩) ts.length ts.length,.string a,.string b] w fun e w'=>e=.returned (.bool (under ts a b))∧Bel w w':=by
 have HS:=hid h;have hl:=h.len;clear h;cases hab:(a.toList==b.toList)
 case true=>
  have HR:Hid (under ts a b=true):=by show _=_;rw[under,hab];rfl
  go_enter Tryz.func157,Tryz.ntmps157
  go_wp2;go_ret;exact⟨Pl.ae HR.out.symm,br⟩
 obtain⟨R,hR⟩:∃ R,R=under ts a b:=⟨_,rfl⟩
 have HR:Hid (ma ts 4 a b=R):=by show _=R;rw[hR,under,hab];rfl
 rw[← hR];clear hR;go_enter Tryz.func157,Tryz.ntmps157
 go_wp2;clear hab;go_loopw [1,10] (fun v i wr=>∃ (k:Nat) (x:ByteArray),k≤4∧i=.int .i64 k∧v=.string x∧ma ts (4 - k) x b=R∧Bel w wr) (fun _ i _=>4 - (intOf i).toNat)
 case atStart=>exact⟨0,a,nz,rfl,rfl,HR.out,br⟩
 case round=>
  obtain⟨k,x,hk,rfl,rfl,hq,hW⟩:=hrel;have HQ:=hid hq;clear hq;by_cases av:k<4
  ·have HU:Hid (R=if Pl.aE (bN ts x)=true then false else if ((bN ts x).toList==b.toList)=true then true else ma ts (4 - (k+1)) (bN ts x) b):=by
    show R=_;rw[← HQ.out,show 4 - k=(4 - (k+1))+1 by omega,ma]
   clear HQ;go_wp2_with fail
   refine(rN B ts x wr (HS.out.later hW)).mono ?_;rintro e w' ⟨rfl,aA⟩;have rr:=aa hW aA;clear aA;obtain⟨y,hy⟩:∃ y,y=bN ts x:=⟨_,rfl⟩
   rw[← hy]at HU ⊢;clear hy;cases he:y.toList.isEmpty
   ·cases hb:(y.toList==b.toList)
    ·have HE:Hid (ma ts (4 - (k+1)) y b=R):=by have:=HU.out;rw[Pl.aE,he,hb]at this;exact this.symm
     go_wp2;go_roundw
     case rel=>exact⟨k+1,y,by omega,by go_num,rfl,HE.out,rr⟩
     case measure=>simp[intOf];omega
    ·have HE:Hid (true=R):=by have:=HU.out;rw[Pl.aE,he,hb]at this;exact this.symm
     go_wp2;go_ret;exact⟨Pl.ae HE.out,rr⟩
   ·have HE:Hid (false=R):=by have:=HU.out;rw[Pl.aE,he]at this;exact this.symm
    go_wp2;go_ret;exact⟨Pl.ae HE.out,rr⟩
  ·have HE:Hid (false=R):=by show _=_;rw[← HQ.out,show 4 - k=0 by omega,ma]
   go_wp2;go_ret;exact⟨Pl.ae HE.out,hW⟩
theorem iF (B:Nat) (ts:List Tm) (n:ByteArray) (w:World) (h:eB w B ts):
  Calls Tryz.prog 62 #[.slice (some ⟨B,0,none⟩) ts.length ts.length,.string n] w fun e w'=>e=.returned (.bool (bB ts n))∧w=w':=by
 have hl:=h.len;obtain⟨R,hR⟩:∃ R,R=bB ts n:=⟨_,rfl⟩
 have HR:=hid hR;rw[← hR];clear hR;go_enter Tryz.func62,Tryz.ntmps62
 go_wp2;go_loop [5] (fun i=>∃ k:Nat,k≤ts.length∧i=.int .i64 k∧bB (ts.take k) n=false) (fun i=>ts.length - (intOf i).toNat)
 case atStart=>exact⟨0,nz,rfl,rfl⟩
 case round=>
  obtain⟨k,hk,rfl,hq⟩:=hrel;have HQ:=hid hq;clear hq;by_cases av:k<ts.length
  ·obtain⟨t,ht⟩:∃ t,t=ts.getD k Tm.none:=⟨_,rfl⟩
   have hc:=h.at_ k av;rw[← ht]at hc;obtain⟨c0,c1,_⟩:=hc;cases hn:(t.nm.toList==n.toList)
   ·have HE:=hid (ni ts n k av HQ.out (by rw[← ht];exact hn));clear ht h;go_wp2;go_round
    case rel=>exact⟨k+1,by omega,by go_num,HE.out⟩
    case measure=>simp[intOf];omega
   ·have HE:Hid (R=true):=by show R=true;rw[HR.out];exact nT ts n k av (by rw[← ht];exact hn)
    clear ht h;go_wp2;go_ret;exact⟨Pl.ae HE.out.symm,rfl⟩
  ·have HE:Hid (R=false):=by show _=_;rw[HR.out];exact pc ts n k (by omega) HQ.out
   clear h;go_wp2;go_ret;exact⟨Pl.ae HE.out.symm,rfl⟩
theorem DP (rb:Nat) (t:Tm) (n:ByteArray) (w:World) (hc:w.cell? ⟨rb,0,none⟩=some (.string n)) (av:rb<w.heap.size):
  Calls Tryz.prog 148 #[.agg #[.string t.nm,.string t.ov],.pointer (some ⟨rb,0,none⟩)] w fun e w'=>e=.returned (.bool (t.nm.toList==n.toList))∧Bel w w':=by
 go_enter Tryz.func148,Tryz.ntmps148
 go_wp2;go_ret;exact⟨rfl,ab br _⟩
theorem Fp (rb B:Nat) (ts:List Tm) (n:ByteArray) (w:World) (h:eB w B ts) (hc:w.cell? ⟨rb,0,none⟩=some (.string n)) (BY:rb<w.heap.size):
  Calls Tryz.prog 189 #[.slice (some ⟨B,0,none⟩) ts.length ts.length,.func (.func 148) #[] #[.pointer (some ⟨rb,0,none⟩)]] w fun e w'=>(∃ r:Int,e=.returned (.int .i64 r)∧decide (0≤r)=bB ts n)∧Bel w w':=by
 have HC:=hid (And.intro h (And.intro hc BY));have hl:=h.len;obtain⟨R,hR⟩:∃ R,R=bB ts n:=⟨_,rfl⟩
 have HR:=hid hR;rw[← hR];clear hR h hc BY;go_enter Tryz.func189,Tryz.ntmps189
 go_wp2;go_loopw [8] (fun i wr=>∃ k:Nat,k≤ts.length∧i=.int .i64 k∧bB (ts.take k) n=false∧Bel w wr) (fun i _=>ts.length - (intOf i).toNat)
 case atStart=>exact⟨0,nz,rfl,rfl,br⟩
 case round=>
  obtain⟨k,hk,rfl,hq,hW⟩:=hrel;have HQ:=hid hq;clear hq;by_cases av:k<ts.length
  ·obtain⟨t,ht⟩:∃ t,t=ts.getD k Tm.none:=⟨_,rfl⟩
   have hc:=(HC.out.1.later hW).at_ k av;have zf:=lo HC.out.1.lt hW.size;rw[← ht]at hc;obtain⟨c0,c1,_⟩:=hc;have HX:Hid (Calls Tryz.prog 148 #[.agg #[.string t.nm,.string t.ov],.pointer (some ⟨rb,0,none⟩)] wr fun e w'=>e=.returned (.bool (t.nm.toList==n.toList))∧Bel wr w'):=
    DP rb t n wr ((hW.cell (p:=⟨rb,0,none⟩) HC.out.2.2).trans HC.out.2.1) (lo HC.out.2.2 hW.size)
   have HG:=hid ht;clear ht;go_wp2_with fail
   refine HX.out.mono ?_;rintro e w2 ⟨rfl,aA⟩;have bE:=aa hW aA;clear aA c0 c1 zf HX;cases hn:(t.nm.toList==n.toList)
   ·have HE:=hid (ni ts n k av HQ.out (by rw[← HG.out];exact hn));go_wp2;go_roundw
    case rel=>exact⟨k+1,by omega,by go_num,HE.out,bE⟩
    case measure=>simp[intOf];omega
   ·have HE:Hid (R=true):=by show R=true;rw[HR.out];exact nT ts n k av (by rw[← HG.out];exact hn)
    go_wp2;go_ret;exact⟨⟨_,rfl,by rw[HE.out];simp⟩,bE⟩
  ·have HE:Hid (R=false):=by show _=_;rw[HR.out];exact pc ts n k (by omega) HQ.out
   go_wp2;go_ret;exact⟨⟨_,rfl,by rw[HE.out];simp⟩,hW⟩
theorem xZ (rb B:Nat) (ts:List Tm) (n:ByteArray) (w:World) (h:eB w B ts) (hc:w.cell? ⟨rb,0,none⟩=some (.string n)) (BY:rb<w.heap.size):
  Calls Tryz.prog 147 #[.slice (some ⟨B,0,none⟩) ts.length ts.length,.func (.func 148) #[] #[.pointer (some ⟨rb,0,none⟩)]] w fun e w'=>e=.returned (.bool (bB ts n))∧Bel w w':=by
 have HX:=hid (Fp rb B ts n w h hc BY);clear h hc BY;go_enter Tryz.func147,Tryz.ntmps147
 go_wp2_with fail
 refine HX.out.mono ?_;rintro e w' ⟨⟨r,rfl,hr⟩,hb⟩;have HR:=hid hr;clear hr;go_wp2;go_ret;exact⟨Pl.ae HR.out,hb⟩
theorem jH (B:Nat) (ts:List Tm) (n:ByteArray) (w:World) (h:eB w B ts):
  Calls Tryz.prog 93 #[.slice (some ⟨B,0,none⟩) ts.length ts.length,.string n] w fun e w'=>e=.returned (.bool (bB ts n))∧Bel w w':=by
 have cC:Bel w (w.alloc (.cells #[.string n] 9)):=ab br _;have HX:Hid (Calls Tryz.prog 147 #[.slice (some ⟨B,0,none⟩) ts.length ts.length,.func (.func 148) #[] #[.pointer (some ⟨w.heap.size,0,none⟩)]] (w.alloc (.cells #[.string n] 9)) fun e w'=>e=.returned (.bool (bB ts n))∧Below (w.alloc (.cells #[.string n] 9)).heap.size (w.alloc (.cells #[.string n] 9)) w'):=
  xZ w.heap.size B ts n _ (h.later cC) (by simp) (by simp)
 have HB:=hid cC;clear h cC;go_enter Tryz.func93,Tryz.ntmps93
 go_wp2_with fail
 refine HX.out.mono ?_;rintro e w2 ⟨rfl,aA⟩;have bE:=aa HB.out aA;clear aA;go_wp2;go_ret;exact⟨rfl,bE⟩
theorem jR (B:Nat) (ts:List Tm) (a:ByteArray) (w:World) (h:eB w B ts):
  Calls Tryz.prog 136 #[.slice (some ⟨B,0,none⟩) ts.length ts.length,.string a] w fun e w'=>(∃ r:Int,e=.returned (.int .i64 r)∧0≤r∧r≤5∧decide (4<r)= !high ts 5 a)∧Bel w w':=by
 have HS:=hid h;have hl:=h.len;clear h;obtain⟨R,hR⟩:∃ R,R=high ts 5 a:=⟨_,rfl⟩
 have HR:=hid hR;rw[← hR];clear hR;go_enter Tryz.func136,Tryz.ntmps136
 go_wp2;go_loopw [1,6] (fun v i wr=>∃ (k:Nat) (x:ByteArray),k≤5∧i=.int .i64 k∧v=.string x∧high ts (5 - k) x=R∧Bel w wr) (fun _ i _=>5 - (intOf i).toNat)
 case atStart=>exact⟨0,a,nz,rfl,rfl,HR.out.symm,br⟩
 case round=>
  obtain⟨k,x,hk,rfl,rfl,hq,hW⟩:=hrel;have HQ:=hid hq;clear hq;by_cases av:k<5
  ·have HU:Hid (R=if Pl.aE (bN ts x)=true then true else high ts (5 - (k+1)) (bN ts x)):=by
    show R=_;rw[← HQ.out,show 5 - k=(5 - (k+1))+1 by omega,high]
   clear HQ;go_wp2_with fail
   refine(rN B ts x wr (HS.out.later hW)).mono ?_;rintro e w' ⟨rfl,aA⟩;have rr:=aa hW aA;clear aA;obtain⟨y,hy⟩:∃ y,y=bN ts x:=⟨_,rfl⟩
   rw[← hy]at HU ⊢;clear hy;cases he:y.toList.isEmpty
   ·have HE:Hid (high ts (5 - (k+1)) y=R):=by have:=HU.out;rw[Pl.aE,he]at this;exact this.symm
    go_wp2;go_roundw
    case rel=>exact⟨k+1,y,by omega,by go_num,rfl,HE.out,rr⟩
    case measure=>simp[intOf];omega
   ·have HE:Hid (R=true):=by have:=HU.out;rw[Pl.aE,he]at this;exact this
    go_wp2;go_ret;exact⟨⟨_,rfl,by omega,by omega,by rw[HE.out];simp;omega⟩,rr⟩
  ·have HE:Hid (R=false):=by show _=_;rw[← HQ.out,show 5 - k=0 by omega,high]
   go_wp2;go_ret;exact⟨⟨_,rfl,by omega,by omega,by rw[HE.out];rfl⟩,hW⟩
theorem dI (s:ByteArray) (w:World) (hs:s.size≤maxLen):
  Calls Tryz.prog 68 #[.string s] w fun e w'=>e=.returned (.bool (Pl.aq s))∧w'=w:=(aG s w hs).mono fun _ _ h=>⟨h.1,h.2.symm⟩
theorem eR (s:ByteArray) (w:World) (hs:s.size≤maxLen):
  Calls Tryz.prog 89 #[.string s] w fun e w'=>e=.returned (.bool (Pl.aq s))∧w'=w:=(aJ s w hs).mono fun _ _ h=>⟨h.1,h.2.symm⟩
theorem ek (B:Nat) (ts:List Tm) (n:ByteArray) (w:World) (h:eB w B ts):
  Calls Tryz.prog 62 #[.slice (some ⟨B,0,none⟩) ts.length ts.length,.string n] w fun e w'=>e=.returned (.bool (bB ts n))∧w'=w:=(iF B ts n w h).mono fun _ _ h=>⟨h.1,h.2.symm⟩
def iD (ts:List Tm) (nm:ByteArray) (k:Nat) (x:ByteArray):Prop:=(x.toList.isEmpty=true→high ts 5 nm=true)∧(x.toList.isEmpty=false→high ts (5 - k) x=high ts 5 nm)
theorem iX {ts:List Tm} {nm:ByteArray} {k:Nat} {x:ByteArray} (h:iD ts nm k x) (hk:k<5) (he:x.toList.isEmpty=false):iD ts nm (k+1) (bN ts x):=by
 have h2:=h.2 he;rw[show 5 - k=(5 - (k+1))+1 by omega,high]at h2;constructor
 ·intro e;rw[Pl.aE,e]at h2;exact h2.symm
 ·intro e;rw[Pl.aE,e]at h2;exact h2
theorem jQ {ts:List Tm} {nm:ByteArray} {k:Nat} {x:ByteArray} (h:iD ts nm k x) (hk:¬ k<5) (he:x.toList.isEmpty=false):high ts 5 nm=false:=by
 have h2:=h.2 he;rw[show 5 - k=0 by omega,high]at h2;exact h2.symm
theorem pU {ts:List Tm} {k:Nat} {t:Tm} (ht:t=ts.getD k Tm.none) (P:Bool) (hP:P=(decide (k=0)||Pl.less (ts.getD (k - 1) Tm.none).nm t.nm)):
  lh ts k=(Pl.aq t.nm&&P&&(t.ov.toList.isEmpty||bB ts t.ov)&&high ts 5 t.nm):=by
 rw[lh,← ht,hP];rfl
theorem A2 (B:Nat) (ts:List Tm) (w:World) (h:eB w B ts):
  Calls Tryz.prog 60 #[.slice (some ⟨B,0,none⟩) ts.length ts.length] w fun e w'=>e=.returned (.bool (el ts))∧Bel w w':=by
 have HS:=hid h;have hl:=h.len;clear h;by_cases jF:ts.length≤12
 case neg=>
  have HR:Hid (el ts=false):=by show _=_;simp[el,jF]
  go_enter Tryz.func60,Tryz.ntmps60
  go_wp2;go_ret;exact⟨Pl.ae HR.out.symm,br⟩
 obtain⟨R,hR⟩:∃ R,R=el ts:=⟨_,rfl⟩
 have HR:=hid hR;rw[← hR];clear hR;go_enter Tryz.func60,Tryz.ntmps60
 go_wp2;go_loopw [3] (fun i wr=>∃ k:Nat,k≤ts.length∧i=.int .i64 k∧eN ts k=true∧Bel w wr) (fun i _=>ts.length - (intOf i).toNat)
 case atStart=>exact⟨0,nz,rfl,rfl,br⟩
 case round=>
  obtain⟨k,hk,rfl,aw,hW⟩:=hrel;obtain⟨wo,rfl⟩:∃ wo:World,wo=wr:=⟨_,rfl⟩
  have HA:=hid aw;clear aw;by_cases av:k<ts.length
  ·obtain⟨t,ht⟩:∃ t,t=ts.getD k Tm.none:=⟨_,rfl⟩
   have hc:=(HS.out.later hW).at_ k av;rw[← ht]at hc;obtain⟨c0,c1,eU⟩:=hc;have HN:=hid eU;have cC:Bel wo (wo.alloc (.cells #[.string t.nm,.string t.ov] 138)):=ab br _;have HX:Hid (∀ W,Bel wo W→eB W B ts):=fun W rr=>(HS.out.later hW).later rr;have HF:Hid (lh ts k=false→R=false):=fun hf=>by rw[HR.out];exact k7 av hf
   have hp:∃ P:Bool,P=(decide (k=0)||Pl.less (ts.getD (k - 1) Tm.none).nm t.nm)∧((k=0∧P=true)∨∃ (m:Nat) (p:ByteArray),k=m+1∧wo.cell? ⟨B,m*2,none⟩=some (.string p)∧Op.bytesLess p.toList t.nm.toList=P):=by
    refine⟨_,rfl, ?_⟩;by_cases h0:k=0
    ·exact Or.inl ⟨h0,by simp[h0]⟩
    ·refine Or.inr ⟨k - 1,(ts.getD (k - 1) Tm.none).nm,by omega,((HS.out.later hW).at_ (k - 1) (by omega)).c0,by simp[h0,Pl.less]⟩
   obtain⟨P,hP,BQ⟩:=hp;have HT:=hid (pU ht P hP);clear hP ht eU;rcases BQ with⟨rfl,rfl⟩|⟨m,p,rfl,mQ,hq⟩
   ·cases hn:Pl.aq t.nm
    ·have HE:=hid (HF.out (by rw[HT.out,hn];rfl));go_wp2_with fail
     go_quiet (first|(go_at_call 68;exact Calls.quiet_of_same (dI _ _ HN.out.1))|(go_at_call 62;refine Calls.quiet_of_same (ek B ts t.ov _ (HX.out _ ?_));first|exact cC|exact al cC _))
     go_wp2;go_ret;exact⟨Pl.ae HE.out.symm,al (aa hW cC) _⟩
    ·cases he:t.ov.toList.isEmpty
     ·cases hi:bB ts t.ov
      ·have HE:=hid (HF.out (by rw[HT.out,he,hi];simp));go_wp2_with fail
       go_quiet (first|(go_at_call 68;exact Calls.quiet_of_same (dI _ _ HN.out.1))|(go_at_call 62;refine Calls.quiet_of_same (ek B ts t.ov _ (HX.out _ ?_));first|exact cC|exact al cC _))
       go_wp2;go_ret;exact⟨Pl.ae HE.out.symm,al (aa hW cC) _⟩
      ·have yP:(t.ov.toList.isEmpty||bB ts t.ov)=true:=by rw[hi];simp
       have HK:Hid (high ts 5 t.nm=true→eN ts (0+1)=true):=fun hh=>eh HA.out (by rw[HT.out,hn,hh,he,hi];simp);have ry:Hid (iD ts t.nm 0 t.nm):=⟨fun e=>(by rw[Pl.kO hn]at e;cases e),fun _=>rfl⟩
       have HJ:Hid (high ts 5 t.nm=false→R=false):=fun hh=>HF.out (by rw[HT.out,hh];simp);go_wp2_with fail
       go_quiet (first|(go_at_call 68;exact Calls.quiet_of_same (dI _ _ HN.out.1))|(go_at_call 62;refine Calls.quiet_of_same (ek B ts t.ov _ (HX.out _ ?_));first|exact cC|exact al cC _))
       go_wp2;clear hn yP he hi;go_loop [5,6] (fun v i=>∃ (q:Nat) (x:ByteArray),q≤5∧i=.int .i64 q∧v=.string x∧iD ts t.nm q x) (fun _ i=>5 - (intOf i).toNat)
       case atStart=>exact⟨0,t.nm,nz,rfl,rfl,ry.out⟩
       case round=>
        obtain⟨q,x,Nm,rfl,rfl,tg⟩:=hrel;have vB:=hid tg;clear tg;cases hx:x.toList.isEmpty
        ·by_cases hlq:q<5
         ·have hF:=hid (iX vB.out hlq hx);go_wp2_with fail
          refine(iu B ts x _ (HX.out _ (al cC _))).mono ?_;rintro e w' ⟨rfl,rfl⟩;clear hx;go_wp2;go_round
          case rel=>first|exact⟨q+1,_,by omega,by go_num,rfl,hF.out⟩|((repeat apply Exists.intro);exact⟨⟨q+1,_,by omega,by go_num,rfl,hF.out⟩,rfl⟩)|(refine⟨trivial, ?_⟩;(repeat apply Exists.intro);exact⟨⟨q+1,_,by omega,by go_num,rfl,hF.out⟩,rfl⟩)
          case measure=>simp[intOf];omega
         ·have HE:=hid (HJ.out (jQ vB.out hlq hx));go_wp2;go_ret;exact⟨Pl.ae HE.out.symm,al (aa hW cC) _⟩
        ·have HE:=hid (HK.out (vB.out.1 hx));by_cases hlq:q<5
         all_goals
          go_wp2;go_roundw
          case rel=>first|exact⟨0+1,by omega,by go_num,HE.out,al (aa hW cC) _⟩|((repeat apply Exists.intro);exact⟨⟨0+1,by omega,by go_num,HE.out,al (aa hW cC) _⟩,rfl⟩)
          case measure=>simp[intOf];omega
     ·have yP:(t.ov.toList.isEmpty||bB ts t.ov)=true:=by rw[he];rfl
      have HK:Hid (high ts 5 t.nm=true→eN ts (0+1)=true):=fun hh=>eh HA.out (by rw[HT.out,hn,hh,he];simp);have ry:Hid (iD ts t.nm 0 t.nm):=⟨fun e=>(by rw[Pl.kO hn]at e;cases e),fun _=>rfl⟩
      have HJ:Hid (high ts 5 t.nm=false→R=false):=fun hh=>HF.out (by rw[HT.out,hh];simp);go_wp2_with fail
      go_quiet (first|(go_at_call 68;exact Calls.quiet_of_same (dI _ _ HN.out.1))|(go_at_call 62;refine Calls.quiet_of_same (ek B ts t.ov _ (HX.out _ ?_));first|exact cC|exact al cC _))
      go_wp2;clear hn yP he;go_loop [5,6] (fun v i=>∃ (q:Nat) (x:ByteArray),q≤5∧i=.int .i64 q∧v=.string x∧iD ts t.nm q x) (fun _ i=>5 - (intOf i).toNat)
      case atStart=>exact⟨0,t.nm,nz,rfl,rfl,ry.out⟩
      case round=>
       obtain⟨q,x,Nm,rfl,rfl,tg⟩:=hrel;have vB:=hid tg;clear tg;cases hx:x.toList.isEmpty
       ·by_cases hlq:q<5
        ·have hF:=hid (iX vB.out hlq hx);go_wp2_with fail
         refine(iu B ts x _ (HX.out _ (al cC _))).mono ?_;rintro e w' ⟨rfl,rfl⟩;clear hx;go_wp2;go_round
         case rel=>first|exact⟨q+1,_,by omega,by go_num,rfl,hF.out⟩|((repeat apply Exists.intro);exact⟨⟨q+1,_,by omega,by go_num,rfl,hF.out⟩,rfl⟩)|(refine⟨trivial, ?_⟩;(repeat apply Exists.intro);exact⟨⟨q+1,_,by omega,by go_num,rfl,hF.out⟩,rfl⟩)
         case measure=>simp[intOf];omega
        ·have HE:=hid (HJ.out (jQ vB.out hlq hx));go_wp2;go_ret;exact⟨Pl.ae HE.out.symm,al (aa hW cC) _⟩
       ·have HE:=hid (HK.out (vB.out.1 hx));by_cases hlq:q<5
        all_goals
         go_wp2;go_roundw
         case rel=>first|exact⟨0+1,by omega,by go_num,HE.out,al (aa hW cC) _⟩|((repeat apply Exists.intro);exact⟨⟨0+1,by omega,by go_num,HE.out,al (aa hW cC) _⟩,rfl⟩)
         case measure=>simp[intOf];omega
   ·have GN:=lo HS.out.lt hW.size;have EP:decide ((m:Int)+1<(ts.length:Int))=true:=by simp;omega
    cases hn:Pl.aq t.nm
    ·have HE:=hid (HF.out (by rw[HT.out,hn];rfl));go_wp2_with fail
     go_quiet (first|(go_at_call 68;exact Calls.quiet_of_same (dI _ _ HN.out.1))|(go_at_call 62;refine Calls.quiet_of_same (ek B ts t.ov _ (HX.out _ ?_));first|exact cC|exact al cC _))
     go_wp2;go_ret;exact⟨Pl.ae HE.out.symm,al (aa hW cC) _⟩
    ·cases P
     ·have HE:=hid (HF.out (by rw[HT.out];simp));go_wp2_with fail
      go_quiet (first|(go_at_call 68;exact Calls.quiet_of_same (dI _ _ HN.out.1))|(go_at_call 62;refine Calls.quiet_of_same (ek B ts t.ov _ (HX.out _ ?_));first|exact cC|exact al cC _))
      go_wp2;go_ret;exact⟨Pl.ae HE.out.symm,al (aa hW cC) _⟩
     ·cases he:t.ov.toList.isEmpty
      ·cases hi:bB ts t.ov
       ·have HE:=hid (HF.out (by rw[HT.out,he,hi];simp));go_wp2_with fail
        go_quiet (first|(go_at_call 68;exact Calls.quiet_of_same (dI _ _ HN.out.1))|(go_at_call 62;refine Calls.quiet_of_same (ek B ts t.ov _ (HX.out _ ?_));first|exact cC|exact al cC _))
        go_wp2;go_ret;exact⟨Pl.ae HE.out.symm,al (aa hW cC) _⟩
       ·have yP:(t.ov.toList.isEmpty||bB ts t.ov)=true:=by rw[hi];simp
        have HK:Hid (high ts 5 t.nm=true→eN ts ((m+1)+1)=true):=fun hh=>eh HA.out (by rw[HT.out,hn,hh,he,hi];simp);have ry:Hid (iD ts t.nm 0 t.nm):=⟨fun e=>(by rw[Pl.kO hn]at e;cases e),fun _=>rfl⟩
        have HJ:Hid (high ts 5 t.nm=false→R=false):=fun hh=>HF.out (by rw[HT.out,hh];simp);go_wp2_with fail
        go_quiet (first|(go_at_call 68;exact Calls.quiet_of_same (dI _ _ HN.out.1))|(go_at_call 62;refine Calls.quiet_of_same (ek B ts t.ov _ (HX.out _ ?_));first|exact cC|exact al cC _))
        go_wp2;clear hn yP mQ hq he hi;go_loop [5,6] (fun v i=>∃ (q:Nat) (x:ByteArray),q≤5∧i=.int .i64 q∧v=.string x∧iD ts t.nm q x) (fun _ i=>5 - (intOf i).toNat)
        case atStart=>exact⟨0,t.nm,nz,rfl,rfl,ry.out⟩
        case round=>
         obtain⟨q,x,Nm,rfl,rfl,tg⟩:=hrel;have vB:=hid tg;clear tg;cases hx:x.toList.isEmpty
         ·by_cases hlq:q<5
          ·have hF:=hid (iX vB.out hlq hx);go_wp2_with fail
           refine(iu B ts x _ (HX.out _ (al cC _))).mono ?_;rintro e w' ⟨rfl,rfl⟩;clear hx;go_wp2;go_round
           case rel=>first|exact⟨q+1,_,by omega,by go_num,rfl,hF.out⟩|((repeat apply Exists.intro);exact⟨⟨q+1,_,by omega,by go_num,rfl,hF.out⟩,rfl⟩)|(refine⟨trivial, ?_⟩;(repeat apply Exists.intro);exact⟨⟨q+1,_,by omega,by go_num,rfl,hF.out⟩,rfl⟩)
           case measure=>simp[intOf];omega
          ·have HE:=hid (HJ.out (jQ vB.out hlq hx));go_wp2;go_ret;exact⟨Pl.ae HE.out.symm,al (aa hW cC) _⟩
         ·have HE:=hid (HK.out (vB.out.1 hx));by_cases hlq:q<5
          all_goals
           go_wp2;go_roundw
           case rel=>first|exact⟨(m+1)+1,by omega,by go_num,HE.out,al (aa hW cC) _⟩|((repeat apply Exists.intro);exact⟨⟨(m+1)+1,by omega,by go_num,HE.out,al (aa hW cC) _⟩,rfl⟩)
           case measure=>simp[intOf];omega
      ·have yP:(t.ov.toList.isEmpty||bB ts t.ov)=true:=by rw[he];rfl
       have HK:Hid (high ts 5 t.nm=true→eN ts ((m+1)+1)=true):=fun hh=>eh HA.out (by rw[HT.out,hn,hh,he];simp);have ry:Hid (iD ts t.nm 0 t.nm):=⟨fun e=>(by rw[Pl.kO hn]at e;cases e),fun _=>rfl⟩
       have HJ:Hid (high ts 5 t.nm=false→R=false):=fun hh=>HF.out (by rw[HT.out,hh];simp);go_wp2_with fail
       go_quiet (first|(go_at_call 68;exact Calls.quiet_of_same (dI _ _ HN.out.1))|(go_at_call 62;refine Calls.quiet_of_same (ek B ts t.ov _ (HX.out _ ?_));first|exact cC|exact al cC _))
       go_wp2;clear hn yP mQ hq he;go_loop [5,6] (fun v i=>∃ (q:Nat) (x:ByteArray),q≤5∧i=.int .i64 q∧v=.string x∧iD ts t.nm q x) (fun _ i=>5 - (intOf i).toNat)
       case atStart=>exact⟨0,t.nm,nz,rfl,rfl,ry.out⟩
       case round=>
        obtain⟨q,x,Nm,rfl,rfl,tg⟩:=hrel;have vB:=hid tg;clear tg;cases hx:x.toList.isEmpty
        ·by_cases hlq:q<5
         ·have hF:=hid (iX vB.out hlq hx);go_wp2_with fail
          refine(iu B ts x _ (HX.out _ (al cC _))).mono ?_;rintro e w' ⟨rfl,rfl⟩;clear hx;go_wp2;go_round
          case rel=>first|exact⟨q+1,_,by omega,by go_num,rfl,hF.out⟩|((repeat apply Exists.intro);exact⟨⟨q+1,_,by omega,by go_num,rfl,hF.out⟩,rfl⟩)|(refine⟨trivial, ?_⟩;(repeat apply Exists.intro);exact⟨⟨q+1,_,by omega,by go_num,rfl,hF.out⟩,rfl⟩)
          case measure=>simp[intOf];omega
         ·have HE:=hid (HJ.out (jQ vB.out hlq hx));go_wp2;go_ret;exact⟨Pl.ae HE.out.symm,al (aa hW cC) _⟩
        ·have HE:=hid (HK.out (vB.out.1 hx));by_cases hlq:q<5
         all_goals
          go_wp2;go_roundw
          case rel=>first|exact⟨(m+1)+1,by omega,by go_num,HE.out,al (aa hW cC) _⟩|((repeat apply Exists.intro);exact⟨⟨(m+1)+1,by omega,by go_num,HE.out,al (aa hW cC) _⟩,rfl⟩)
          case measure=>simp[intOf];omega
  ·have HE:Hid (R=true):=by
    show R=true;obtain rfl:k=ts.length:=by omega
    rw[HR.out,el,HA.out];simp[jF]
   go_wp2;go_ret;exact⟨Pl.ae HE.out.symm,hW⟩
end Go.Proofs.YtbiokpmdghmgcaaGreat
namespace Go.Proofs.YtbiokpmdghmgcaaGreat
set_option maxRecDepth 8000
set_option maxHeartbeats 40000000
open Go.RowKit Go.Deep
def fE (c p:Nat):Value:=if c=0 then .nilIface else .iface 261 (.agg #[.int .i64 (c:Nat),.int .i64 (p:Nat)])
def okV (b:Bool):Value:=if b=true then .nilIface else .iface 261 (.agg #[.int .i64 1,.int .i64 0])
theorem fy (b:Bool) (w:World):Calls Tryz.prog 204 #[.bool b] w fun e w'=>e=.returned (okV b)∧w=w':=by
 cases b
 all_goals
  go_enter Tryz.func204,Tryz.ntmps204
  go_wp2;go_ret;exact⟨rfl,rfl⟩
theorem dY {x y:Value} (h:x=y):Ending.returned x=Ending.returned y:=by rw[h]
def eD (o:Ob):Bool:=Pl.aq o.name&&Pl.aq o.team
def eF (o:Ob):Bool:=decide (o.holds.length≤3)&&Pl.asc o.holds
def b9 (o:Ob):Bool:=decide (0≤o.version)&&decide (o.version≤1000000)
theorem ud (K:ByteArray) (fb:Nat) (fs:List Fld) (o:Ob) (b1 c1 b2 c2:Nat) (w:World) (hs:o.sized):
  Calls Tryz.prog 179 #[.agg #[.string K,.slice (some ⟨fb,0,none⟩) fs.length fs.length],.agg #[.string o.kind,.string o.name,.string o.team,.slice (some ⟨b1,0,none⟩) o.values.length c1,.bool o.ending,.slice (some ⟨b2,0,none⟩) o.holds.length c2,.int .i64 o.version]] w fun e w'=>e=.returned (okV (eD o))∧Bel w w':=by
 have HB:Hid (Bel w ((w.alloc (.cells #[.string K,.slice (some ⟨fb,0,none⟩) fs.length fs.length] 134)).alloc (.cells #[.string o.kind,.string o.name,.string o.team,.slice (some ⟨b1,0,none⟩) o.values.length c1,.bool o.ending,.slice (some ⟨b2,0,none⟩) o.holds.length c2,.int .i64 o.version] 111))):=ab (ab br _) _;have HS:=hid (And.intro hs.2.1 hs.2.2);clear hs;go_enter Tryz.func179,Tryz.ntmps179
 go_wp2_with fail
 refine(aJ o.name _ HS.out.1).mono ?_;rintro e w' ⟨rfl,rfl⟩;cases h1:Pl.aq o.name
 ·have HT:Hid (eD o=false):=by show _=_;unfold eD;rw[h1];rfl
  go_wp2_with fail
  refine(fy false _).mono ?_;rintro e w' ⟨rfl,rfl⟩;obtain⟨R,hR⟩:∃ R,R=okV false:=⟨_,rfl⟩
  rw[← hR];have fg:=hid hR;clear hR;go_wp2;go_ret;exact⟨dY (by rw[fg.out,HT.out];rfl),HB.out⟩
 ·go_wp2_with fail
  refine(aJ o.team _ HS.out.2).mono ?_;rintro e w' ⟨rfl,rfl⟩;have HT:Hid (eD o=Pl.aq o.team):=by show _=_;unfold eD;rw[h1];rfl
  obtain⟨q,hq⟩:∃ q,q=Pl.aq o.team:=⟨_,rfl⟩
  rw[← hq]at HT ⊢;clear hq;go_wp2_with fail
  refine(fy q _).mono ?_;rintro e w' ⟨rfl,rfl⟩;obtain⟨R,hR⟩:∃ R,R=okV q:=⟨_,rfl⟩
  rw[← hR];have fg:=hid hR;clear hR;go_wp2;go_ret;exact⟨dY (by rw[fg.out,HT.out];rfl),HB.out⟩
theorem tH (K:ByteArray) (fb:Nat) (fs:List Fld) (o:Ob) (b1 c1 b2 c2:Nat) (w:World):
  Calls Tryz.prog 180 #[.agg #[.string K,.slice (some ⟨fb,0,none⟩) fs.length fs.length],.agg #[.string o.kind,.string o.name,.string o.team,.slice (some ⟨b1,0,none⟩) o.values.length c1,.bool o.ending,.slice (some ⟨b2,0,none⟩) o.holds.length c2,.int .i64 o.version]] w fun e w'=>e=.returned (okV (decide (o.values.length=fs.length)))∧Bel w w':=by
 have HB:Hid (Bel w ((w.alloc (.cells #[.string K,.slice (some ⟨fb,0,none⟩) fs.length fs.length] 134)).alloc (.cells #[.string o.kind,.string o.name,.string o.team,.slice (some ⟨b1,0,none⟩) o.values.length c1,.bool o.ending,.slice (some ⟨b2,0,none⟩) o.holds.length c2,.int .i64 o.version] 111))):=ab (ab br _) _;by_cases h1:(o.values.length:Int)=(fs.length:Int)
 ·have HT:Hid (decide (o.values.length=fs.length)=true):=by show _=_;simp;omega
  go_enter Tryz.func180,Tryz.ntmps180
  go_wp2_with fail
  refine(fy true _).mono ?_;rintro e w' ⟨rfl,rfl⟩;obtain⟨R,hR⟩:∃ R,R=okV true:=⟨_,rfl⟩
  rw[← hR];have fg:=hid hR;clear hR;go_wp2;go_ret;exact⟨dY (by rw[fg.out,HT.out];rfl),HB.out⟩
 ·have HT:Hid (decide (o.values.length=fs.length)=false):=by show _=_;simp;omega
  have h2:((o.values.length:Int)==(fs.length:Int))=false:=by rw[beq_eq_false_iff_ne];exact h1
  go_enter Tryz.func180,Tryz.ntmps180
  go_wp2_with fail
  refine(fy false _).mono ?_;rintro e w' ⟨rfl,rfl⟩;obtain⟨R,hR⟩:∃ R,R=okV false:=⟨_,rfl⟩
  rw[← hR];have fg:=hid hR;clear hR;go_wp2;go_ret;exact⟨dY (by rw[fg.out,HT.out];rfl),HB.out⟩
theorem vb (K:ByteArray) (fb:Nat) (fs:List Fld) (o:Ob) (b1 c1 b2 c2:Nat) (w:World) (h:i7 w b1 b2 o) (hz:∀ i,i<o.holds.length→(o.holds.getD i ByteArray.empty).size≤maxLen):
  Calls Tryz.prog 181 #[.agg #[.string K,.slice (some ⟨fb,0,none⟩) fs.length fs.length],.agg #[.string o.kind,.string o.name,.string o.team,.slice (some ⟨b1,0,none⟩) o.values.length c1,.bool o.ending,.slice (some ⟨b2,0,none⟩) o.holds.length c2,.int .i64 o.version]] w fun e w'=>e=.returned (okV (eF o))∧Bel w w':=by
 have HB:Hid (Bel w ((w.alloc (.cells #[.string K,.slice (some ⟨fb,0,none⟩) fs.length fs.length] 134)).alloc (.cells #[.string o.kind,.string o.name,.string o.team,.slice (some ⟨b1,0,none⟩) o.values.length c1,.bool o.ending,.slice (some ⟨b2,0,none⟩) o.holds.length c2,.int .i64 o.version] 111))):=ab (ab br _) _;have hl:=h.len2;have HX:Hid (Calls Tryz.prog 205 #[.slice (some ⟨b2,0,none⟩) o.holds.length c2] ((w.alloc (.cells #[.string K,.slice (some ⟨fb,0,none⟩) fs.length fs.length] 134)).alloc (.cells #[.string o.kind,.string o.name,.string o.team,.slice (some ⟨b1,0,none⟩) o.values.length c1,.bool o.ending,.slice (some ⟨b2,0,none⟩) o.holds.length c2,.int .i64 o.version] 111)) fun e w'=>e=.returned (.bool (Pl.asc o.holds))∧((w.alloc (.cells #[.string K,.slice (some ⟨fb,0,none⟩) fs.length fs.length] 134)).alloc (.cells #[.string o.kind,.string o.name,.string o.team,.slice (some ⟨b1,0,none⟩) o.values.length c1,.bool o.ending,.slice (some ⟨b2,0,none⟩) o.holds.length c2,.int .i64 o.version] 111))=w'):=
  wS b2 c2 o.holds _ hl hz (fun i hi=>by rw[Nat.zero_add];exact(h.later HB.out).at2 i hi)
 clear h hz;by_cases h1:(o.holds.length:Int)≤3
 ·obtain⟨q,hq⟩:∃ q,q=Pl.asc o.holds:=⟨_,rfl⟩
  rw[← hq]at HX;have HT:Hid (eF o=q):=by show _=_;unfold eF;rw[hq];simp;omega
  clear hq;go_enter Tryz.func181,Tryz.ntmps181
  go_wp2_with fail
  refine HX.out.mono ?_;rintro e w' ⟨rfl,rfl⟩;go_wp2_with fail
  refine(fy q _).mono ?_;rintro e w' ⟨rfl,rfl⟩;obtain⟨R,hR⟩:∃ R,R=okV q:=⟨_,rfl⟩
  rw[← hR];have fg:=hid hR;clear hR;go_wp2;go_ret;exact⟨dY (by rw[fg.out,HT.out];rfl),HB.out⟩
 ·have HT:Hid (eF o=false):=by show _=_;unfold eF;simp;omega
  clear HX;go_enter Tryz.func181,Tryz.ntmps181
  go_wp2_with fail
  refine(fy false _).mono ?_;rintro e w' ⟨rfl,rfl⟩;obtain⟨R,hR⟩:∃ R,R=okV false:=⟨_,rfl⟩
  rw[← hR];have fg:=hid hR;clear hR;go_wp2;go_ret;exact⟨dY (by rw[fg.out,HT.out];rfl),HB.out⟩
theorem re (K:ByteArray) (fb:Nat) (fs:List Fld) (o:Ob) (b1 c1 b2 c2:Nat) (w:World):
  Calls Tryz.prog 182 #[.agg #[.string K,.slice (some ⟨fb,0,none⟩) fs.length fs.length],.agg #[.string o.kind,.string o.name,.string o.team,.slice (some ⟨b1,0,none⟩) o.values.length c1,.bool o.ending,.slice (some ⟨b2,0,none⟩) o.holds.length c2,.int .i64 o.version]] w fun e w'=>e=.returned (okV (b9 o))∧Bel w w':=by
 have HB:Hid (Bel w ((w.alloc (.cells #[.string K,.slice (some ⟨fb,0,none⟩) fs.length fs.length] 134)).alloc (.cells #[.string o.kind,.string o.name,.string o.team,.slice (some ⟨b1,0,none⟩) o.values.length c1,.bool o.ending,.slice (some ⟨b2,0,none⟩) o.holds.length c2,.int .i64 o.version] 111))):=ab (ab br _) _;by_cases h1:0≤o.version
 ·by_cases h2:o.version≤1000000
  ·have HT:Hid (b9 o=true):=by show _=_;unfold b9;simp[h1,h2]
   go_enter Tryz.func182,Tryz.ntmps182
   go_wp2_with fail
   refine(fy true _).mono ?_;rintro e w' ⟨rfl,rfl⟩;obtain⟨R,hR⟩:∃ R,R=okV true:=⟨_,rfl⟩
   rw[← hR];have fg:=hid hR;clear hR;go_wp2;go_ret;exact⟨dY (by rw[fg.out,HT.out];rfl),HB.out⟩
  ·have HT:Hid (b9 o=false):=by show _=_;unfold b9;simp[h2]
   go_enter Tryz.func182,Tryz.ntmps182
   go_wp2_with fail
   refine(fy false _).mono ?_;rintro e w' ⟨rfl,rfl⟩;obtain⟨R,hR⟩:∃ R,R=okV false:=⟨_,rfl⟩
   rw[← hR];have fg:=hid hR;clear hR;go_wp2;go_ret;exact⟨dY (by rw[fg.out,HT.out];rfl),HB.out⟩
 ·have HT:Hid (b9 o=false):=by show _=_;unfold b9;simp[h1]
  go_enter Tryz.func182,Tryz.ntmps182
  go_wp2_with fail
  refine(fy false _).mono ?_;rintro e w' ⟨rfl,rfl⟩;obtain⟨R,hR⟩:∃ R,R=okV false:=⟨_,rfl⟩
  rw[← hR];have fg:=hid hR;clear hR;go_wp2;go_ret;exact⟨dY (by rw[fg.out,HT.out];rfl),HB.out⟩
def j3 (fs:List Fld) (vs:List ByteArray) (i:Nat):Nat:=
 if (vs.getD i ByteArray.empty).toList.isEmpty=true then (if (fs.getD i Fld.none).must=true then 2 else 0) else (if dC (fs.getD i Fld.none) (vs.getD i ByteArray.empty)=true then 0 else 3)
def di (fs:List Fld) (vs:List ByteArray):Nat:=(List.range fs.length).findIdx fun i=>decide (j3 fs vs i≠0)
def dt (fs:List Fld) (vs:List ByteArray):Nat:=if di fs vs<fs.length then j3 fs vs (di fs vs) else 0
def eV (fs:List Fld) (vs:List ByteArray):Nat:=if di fs vs<fs.length then di fs vs else 0
theorem mf {fs:List Fld} {vs:List ByteArray} {i:Nat} (_hi:i<fs.length) (iM:i≤di fs vs) (h:j3 fs vs i≠0):di fs vs=i:=by
 have:di fs vs≤i:=by
  unfold di;exact Nat.le_of_not_lt fun av=>by
   have:=List.not_of_lt_findIdx av;simp[h]at this
 omega
theorem k8 {fs:List Fld} {vs:List ByteArray} {i:Nat} (hi:i<fs.length) (iM:i≤di fs vs) (h:j3 fs vs i=0):i+1≤di fs vs:=by
 by_cases hq:di fs vs=i
 ·exfalso;have av:di fs vs<(List.range fs.length).length:=by simp;omega
  have:=List.findIdx_getElem (w:=av);unfold di at hq;simp only[hq]at this;simp[h]at this
 ·omega
theorem sB (K:ByteArray) (fb:Nat) (fs:List Fld) (o:Ob) (b1 c1 b2 c2:Nat) (w:World) (h:i7 w b1 b2 o) (hf:bW w fb fs) (hz:∀ i,i<o.values.length→(o.values.getD i ByteArray.empty).size≤maxLen) (hn:o.values.length=fs.length):
  Calls Tryz.prog 183 #[.agg #[.string K,.slice (some ⟨fb,0,none⟩) fs.length fs.length],.agg #[.string o.kind,.string o.name,.string o.team,.slice (some ⟨b1,0,none⟩) o.values.length c1,.bool o.ending,.slice (some ⟨b2,0,none⟩) o.holds.length c2,.int .i64 o.version]] w fun e w'=>e=.returned (fE (dt fs o.values) (eV fs o.values))∧Bel w w':=by
 have HA:=hid (And.intro h (And.intro hf (And.intro hz hn)));have hl:=hf.len;obtain⟨w2,gQ⟩:∃ w2,w2=((w.alloc (.cells #[.string K,.slice (some ⟨fb,0,none⟩) fs.length fs.length] 134)).alloc (.cells #[.string o.kind,.string o.name,.string o.team,.slice (some ⟨b1,0,none⟩) o.values.length c1,.bool o.ending,.slice (some ⟨b2,0,none⟩) o.holds.length c2,.int .i64 o.version] 111)):=⟨_,rfl⟩
 have HB:Hid (Bel w w2):=by show Below _ _ _;rw[gQ];exact ab (ab br _) _
 have HK:Hid (w2.heap.size=w.heap.size+2∧w2.cell? ⟨w.heap.size+1,3,none⟩=some (.slice (some ⟨b1,0,none⟩) o.values.length c1)∧w2.cell? ⟨w.heap.size,1,none⟩=some (.slice (some ⟨fb,0,none⟩) fs.length fs.length)):=by show _∧_∧_;rw[gQ];exact⟨by simp,by simp,by simp⟩
 have k1:=HK.out.2.2;have k3:=HK.out.2.1;have mR:w.heap.size<w2.heap.size:=by have:=HK.out.1;omega
 have jr:w.heap.size+1<w2.heap.size:=by have:=HK.out.1;omega
 clear h hf hz hn;go_enter Tryz.func183,Tryz.ntmps183
 go_upto_region 1 with fail
 rw[← gQ];clear gQ;go_wp2;clear k1 k3 mR jr;go_loopw [11] (fun i wr=>∃ k:Nat,k≤fs.length∧i=.int .i64 k∧k≤di fs o.values∧Bel w2 wr) (fun i _=>fs.length - (intOf i).toNat)
 case atStart=>exact⟨0,nz,rfl,nz,br⟩
 case round=>
  obtain⟨k,hk,rfl,iM,hW⟩:=hrel;have HN:=hid iM;have HW:=hid hW;have mo:=hid (aa HB.out hW);clear iM;by_cases av:k<fs.length
  ·obtain⟨f,fH⟩:∃ f,f=fs.getD k Fld.none:=⟨_,rfl⟩
   obtain⟨bf,pT,dP⟩:=(HA.out.2.1.later mo.out).arg av fH;have Hd:k<o.values.length:=by rw[HA.out.2.2.2];exact av
   have v0:=(HA.out.1.later mo.out).at1 k Hd;obtain⟨v,hv⟩:∃ v,v=o.values.getD k ByteArray.empty:=⟨_,rfl⟩
   rw[← hv]at v0;have HV:Hid (v.size≤maxLen):=by show v.size≤maxLen;rw[hv];exact HA.out.2.2.1 k Hd
   have cz:Hid (j3 fs o.values k=if v.toList.isEmpty=true then (if f.must=true then 2 else 0) else (if dC f v=true then 0 else 3)):=by show _=_;unfold j3;rw[← fH,← hv]
   have HM:Hid (j3 fs o.values k=0→k+1≤di fs o.values):=fun e=>k8 av HN.out e;have HH:Hid (∀ c:Nat,c≠0→j3 fs o.values k=c→fE (dt fs o.values) (eV fs o.values)=.iface 261 (.agg #[.int .i64 (c:Nat),.int .i64 (k:Nat)])):=by
    intro c hc e;have e1:=mf av HN.out (by rw[e];exact hc);unfold dt eV fE;rw[e1,if_pos av,if_pos av,e,if_neg hc]
   have bl:=(HA.out.1.later mo.out).lt1;have Jg:=(HA.out.2.1.later mo.out).lt;have Ke:w.heap.size+1<wr.heap.size:=by have:=HW.out.size;have:=HK.out.1;omega
   have k3:wr.cell? ⟨w.heap.size+1,3,none⟩=some (.slice (some ⟨b1,0,none⟩) o.values.length c1):=(hW.cell (p:=⟨w.heap.size+1,3,none⟩) (by have:=HK.out.1;show w.heap.size+1<_;omega)).trans HK.out.2.1;obtain⟨c0,c1',GF,c3,c4,c5,c6,c7,c8,c9,c10,_,_⟩:=dP;have G2:=hid pT;clear fH pT hv hW;cases he:v.toList.isEmpty
   ·have HX:=hid fun (W:World) (ml:Bel wr W)=>mA f bf v W HV.out (G2.out.later ml);go_wp2_with fail
    refine(HX.out _ (ab br _)).mono ?_;rintro e w3 ⟨rfl,aO⟩;have fO:Hid (Bel wr w3):=aa (ab br _) aO;clear aO;cases hfit:dC f v
    ·have HE:=hid (HH.out 3 (by decide) (by rw[cz.out,he,hfit];rfl));go_wp2;go_ret;exact⟨dY HE.out.symm,aa mo.out fO.out⟩
    ·have HE:=hid (HM.out (by rw[cz.out,he,hfit];rfl));clear c0 c1' GF c3 c4 c5 c6 c7 c8 c9 c10 v0 k3;go_wp2;go_roundw
     case rel=>exact⟨k+1,by omega,by go_num,HE.out,aa HW.out fO.out⟩
     case measure=>simp[intOf];omega
   ·cases hmu:f.must
    ·have HE:=hid (HM.out (by rw[cz.out,he,hmu];rfl));go_wp2;go_roundw
     case rel=>exact⟨k+1,by omega,by go_num,HE.out,ab HW.out _⟩
     case measure=>simp[intOf];omega
    ·have HE:=hid (HH.out 2 (by decide) (by rw[cz.out,he,hmu];rfl));go_wp2;go_ret;exact⟨dY HE.out.symm,ab mo.out _⟩
  ·have HE:Hid (fE (dt fs o.values) (eV fs o.values)=.nilIface):=by
    show fE _ _=_;have e:dt fs o.values=0:=by unfold dt;rw[if_neg (by have:=HN.out;omega)]
    unfold fE;rw[e];rfl
   go_wp2;go_ret;exact⟨dY HE.out.symm,mo.out⟩
set_option maxRecDepth 8000
set_option maxHeartbeats 40000000
open Go.RowKit Go.Deep
def dk (fs:List Fld) (o:Ob):Nat:=if (eD o&&decide (o.values.length=fs.length)&&eF o&&b9 o)=true then dt fs o.values else 1
def dF (fs:List Fld) (o:Ob):Nat:=if (eD o&&decide (o.values.length=fs.length)&&eF o&&b9 o)=true then eV fs o.values else 0
theorem rQ (K:ByteArray) (fb:Nat) (fs:List Fld) (o:Ob) (b1 c1 b2 c2:Nat) (w:World) (h:i7 w b1 b2 o) (hf:bW w fb fs) (hs:o.sized) (jr:∀ i,i<o.values.length→(o.values.getD i ByteArray.empty).size≤maxLen) (gX:∀ i,i<o.holds.length→(o.holds.getD i ByteArray.empty).size≤maxLen):
  Calls Tryz.prog 139 #[.agg #[.string K,.slice (some ⟨fb,0,none⟩) fs.length fs.length],.agg #[.string o.kind,.string o.name,.string o.team,.slice (some ⟨b1,0,none⟩) o.values.length c1,.bool o.ending,.slice (some ⟨b2,0,none⟩) o.holds.length c2,.int .i64 o.version]] w fun e w'=>e=.returned (fE (dk fs o) (dF fs o))∧Bel w w':=by
 have HA:=hid (And.intro h (And.intro hf (And.intro hs (And.intro jr gX))));clear h hf hs jr gX;obtain⟨w3,vj⟩:∃ w3,w3=(((w.alloc (.cells #[.string K,.slice (some ⟨fb,0,none⟩) fs.length fs.length] 134)).alloc (.cells #[.string o.kind,.string o.name,.string o.team,.slice (some ⟨b1,0,none⟩) o.values.length c1,.bool o.ending,.slice (some ⟨b2,0,none⟩) o.holds.length c2,.int .i64 o.version] 111)).alloc (.cells #[.func (.func 179) #[] #[],.func (.func 180) #[] #[],.func (.func 181) #[] #[],.func (.func 182) #[] #[],.func (.func 183) #[] #[]] 205)):=⟨_,rfl⟩
 have HB:Hid (Bel w w3):=by show Below _ _ _;rw[vj];exact ab (ab (ab br _) _) _
 have HZ:Hid (w3.heap.size=w.heap.size+3):=by show _=_;rw[vj];simp
 have HK:Hid ((w3.cell? ⟨w.heap.size,0,none⟩=some (.string K)∧w3.cell? ⟨w.heap.size,1,none⟩=some (.slice (some ⟨fb,0,none⟩) fs.length fs.length))∧(w3.cell? ⟨w.heap.size+1,0,none⟩=some (.string o.kind)∧w3.cell? ⟨w.heap.size+1,1,none⟩=some (.string o.name)∧w3.cell? ⟨w.heap.size+1,2,none⟩=some (.string o.team)∧w3.cell? ⟨w.heap.size+1,3,none⟩=some (.slice (some ⟨b1,0,none⟩) o.values.length c1)∧w3.cell? ⟨w.heap.size+1,4,none⟩=some (.bool o.ending)∧w3.cell? ⟨w.heap.size+1,5,none⟩=some (.slice (some ⟨b2,0,none⟩) o.holds.length c2)∧w3.cell? ⟨w.heap.size+1,6,none⟩=some (.int .i64 o.version))∧(w3.cell? ⟨w.heap.size+1+1,0,none⟩=some (.func (.func 179) #[] #[])∧w3.cell? ⟨w.heap.size+1+1,1,none⟩=some (.func (.func 180) #[] #[])∧w3.cell? ⟨w.heap.size+1+1,2,none⟩=some (.func (.func 181) #[] #[])∧w3.cell? ⟨w.heap.size+1+1,3,none⟩=some (.func (.func 182) #[] #[])∧w3.cell? ⟨w.heap.size+1+1,4,none⟩=some (.func (.func 183) #[] #[]))):=by
  have e3:∀ b j,b<w.heap.size+2→w3.cell? ⟨b,j,none⟩=((w.alloc (.cells #[.string K,.slice (some ⟨fb,0,none⟩) fs.length fs.length] 134)).alloc (.cells #[.string o.kind,.string o.name,.string o.team,.slice (some ⟨b1,0,none⟩) o.values.length c1,.bool o.ending,.slice (some ⟨b2,0,none⟩) o.holds.length c2,.int .i64 o.version] 111)).cell? ⟨b,j,none⟩:=by
   intro b j hb;rw[vj];exact(ab br _).cell (p:=⟨b,j,none⟩) (by show b<_;simp;omega)
  refine⟨⟨?_, ?_⟩,⟨?_, ?_, ?_, ?_, ?_, ?_, ?_⟩,⟨?_, ?_, ?_, ?_, ?_⟩⟩
  ·exact(e3 _ _ (by omega)).trans (by simp)
  ·exact(e3 _ _ (by omega)).trans (by simp)
  ·exact(e3 _ _ (by omega)).trans (by simp)
  ·exact(e3 _ _ (by omega)).trans (by simp)
  ·exact(e3 _ _ (by omega)).trans (by simp)
  ·exact(e3 _ _ (by omega)).trans (by simp)
  ·exact(e3 _ _ (by omega)).trans (by simp)
  ·exact(e3 _ _ (by omega)).trans (by simp)
  ·exact(e3 _ _ (by omega)).trans (by simp)
  ·rw[vj,World.cell?_alloc_at _ _ _ _ (by simp)];rfl
  ·rw[vj,World.cell?_alloc_at _ _ _ _ (by simp)];rfl
  ·rw[vj,World.cell?_alloc_at _ _ _ _ (by simp)];rfl
  ·rw[vj,World.cell?_alloc_at _ _ _ _ (by simp)];rfl
  ·rw[vj,World.cell?_alloc_at _ _ _ _ (by simp)];rfl
 go_enter Tryz.func139,Tryz.ntmps139
 go_upto_region 2 with fail
 rw[← vj];clear vj;go_wp2;go_loopw [12] (fun i wr=>∃ k:Nat,k≤5∧i=.int .i64 k∧(1≤k→eD o=true)∧(2≤k→o.values.length=fs.length)∧(3≤k→eF o=true)∧(4≤k→b9 o=true)∧(5≤k→dt fs o.values=0)∧Bel w3 wr) (fun i _=>5 - (intOf i).toNat)
 case atStart=>exact⟨0,by omega,rfl,fun h=>by omega,fun h=>by omega,fun h=>by omega,fun h=>by omega,fun h=>by omega,br⟩
 case round=>
  obtain⟨k,hk,rfl,g1,g2,g3,g4,g5,hW⟩:=hrel;have HG:=hid (And.intro g1 (And.intro g2 (And.intro g3 (And.intro g4 g5))));have HW:=hid hW;have mo:=hid (aa HB.out hW);have Ke:w.heap.size+1+1<wr.heap.size:=by have:=hW.size;have:=HZ.out;omega
  have q:∀ b j,b<w.heap.size+3→wr.cell? ⟨b,j,none⟩=w3.cell? ⟨b,j,none⟩:=fun b j hb=>hW.cell (p:=⟨b,j,none⟩) (by have:=HZ.out;show b<_;omega);have s0:=(q w.heap.size 0 (by omega)).trans HK.out.1.1;have s1:=(q w.heap.size 1 (by omega)).trans HK.out.1.2;have o0:=(q (w.heap.size+1) 0 (by omega)).trans HK.out.2.1.1;have o1:=(q (w.heap.size+1) 1 (by omega)).trans HK.out.2.1.2.1;have o2:=(q (w.heap.size+1) 2 (by omega)).trans HK.out.2.1.2.2.1;have o3:=(q (w.heap.size+1) 3 (by omega)).trans HK.out.2.1.2.2.2.1;have o4:=(q (w.heap.size+1) 4 (by omega)).trans HK.out.2.1.2.2.2.2.1;have o5:=(q (w.heap.size+1) 5 (by omega)).trans HK.out.2.1.2.2.2.2.2.1;have o6:=(q (w.heap.size+1) 6 (by omega)).trans HK.out.2.1.2.2.2.2.2.2;have f0:=(q (w.heap.size+1+1) 0 (by omega)).trans HK.out.2.2.1;have f1:=(q (w.heap.size+1+1) 1 (by omega)).trans HK.out.2.2.2.1;have f2:=(q (w.heap.size+1+1) 2 (by omega)).trans HK.out.2.2.2.2.1;have f3:=(q (w.heap.size+1+1) 3 (by omega)).trans HK.out.2.2.2.2.2.1;have f4:=(q (w.heap.size+1+1) 4 (by omega)).trans HK.out.2.2.2.2.2.2;clear q g1 g2 g3 g4 g5 hW;by_cases k0:k=0
  ·subst k0;go_wp2_with fail
   refine(ud K fb fs o b1 c1 b2 c2 wr HA.out.2.2.1).mono ?_;rintro e w4 ⟨rfl,cA⟩;have aZ:=hid (aa HW.out cA);clear cA s0 s1 o0 o1 o2 o3 o4 o5 o6 f0 f1 f2 f3 f4;cases hb:eD o
   ·have HE:Hid (fE (dk fs o) (dF fs o)=.iface 261 (.agg #[.int .i64 1,.int .i64 0])):=by
     show fE _ _=_;unfold dk dF;rw[hb];simp[fE]
    have e:okV false=.iface 261 (.agg #[.int .i64 1,.int .i64 0]):=rfl;rw[e];clear e;go_wp2;go_ret;exact⟨dY HE.out.symm,aa HB.out aZ.out⟩
   ·have e:okV true=.nilIface:=rfl;rw[e];clear e;go_wp2;go_roundw
    case rel=>exact⟨0+1,by omega,by go_num,fun _=>hb,fun h=>by omega,fun h=>by omega,fun h=>by omega,fun h=>by omega,aZ.out⟩
    case measure=>simp[intOf]
  by_cases k1:k=1
  ·subst k1;go_wp2_with fail
   refine(tH K fb fs o b1 c1 b2 c2 wr).mono ?_;rintro e w4 ⟨rfl,cA⟩;have aZ:=hid (aa HW.out cA);clear cA s0 s1 o0 o1 o2 o3 o4 o5 o6 f0 f1 f2 f3 f4;cases hb:(decide (o.values.length=fs.length))
   ·have HE:Hid (fE (dk fs o) (dF fs o)=.iface 261 (.agg #[.int .i64 1,.int .i64 0])):=by
     show fE _ _=_;unfold dk dF;rw[hb];simp[fE]
    have e:okV false=.iface 261 (.agg #[.int .i64 1,.int .i64 0]):=rfl;rw[e];clear e;go_wp2;go_ret;exact⟨dY HE.out.symm,aa HB.out aZ.out⟩
   ·have e:okV true=.nilIface:=rfl;rw[e];clear e;go_wp2;go_roundw
    case rel=>exact⟨1+1,by omega,by go_num,fun _=>HG.out.1 (by omega),fun _=>of_decide_eq_true hb,fun h=>by omega,fun h=>by omega,fun h=>by omega,aZ.out⟩
    case measure=>simp[intOf]
  by_cases k2:k=2
  ·subst k2;go_wp2_with fail
   refine(vb K fb fs o b1 c1 b2 c2 wr (HA.out.1.later mo.out) HA.out.2.2.2.2).mono ?_;rintro e w4 ⟨rfl,cA⟩;have aZ:=hid (aa HW.out cA);clear cA s0 s1 o0 o1 o2 o3 o4 o5 o6 f0 f1 f2 f3 f4;cases hb:eF o
   ·have HE:Hid (fE (dk fs o) (dF fs o)=.iface 261 (.agg #[.int .i64 1,.int .i64 0])):=by
     show fE _ _=_;unfold dk dF;rw[hb];simp[fE]
    have e:okV false=.iface 261 (.agg #[.int .i64 1,.int .i64 0]):=rfl;rw[e];clear e;go_wp2;go_ret;exact⟨dY HE.out.symm,aa HB.out aZ.out⟩
   ·have e:okV true=.nilIface:=rfl;rw[e];clear e;go_wp2;go_roundw
    case rel=>exact⟨2+1,by omega,by go_num,fun _=>HG.out.1 (by omega),fun _=>HG.out.2.1 (by omega),fun _=>hb,fun h=>by omega,fun h=>by omega,aZ.out⟩
    case measure=>simp[intOf]
  by_cases k3:k=3
  ·subst k3;go_wp2_with fail
   refine(re K fb fs o b1 c1 b2 c2 wr).mono ?_;rintro e w4 ⟨rfl,cA⟩;have aZ:=hid (aa HW.out cA);clear cA s0 s1 o0 o1 o2 o3 o4 o5 o6 f0 f1 f2 f3 f4;cases hb:b9 o
   ·have HE:Hid (fE (dk fs o) (dF fs o)=.iface 261 (.agg #[.int .i64 1,.int .i64 0])):=by
     show fE _ _=_;unfold dk dF;rw[hb];simp[fE]
    have e:okV false=.iface 261 (.agg #[.int .i64 1,.int .i64 0]):=rfl;rw[e];clear e;go_wp2;go_ret;exact⟨dY HE.out.symm,aa HB.out aZ.out⟩
   ·have e:okV true=.nilIface:=rfl;rw[e];clear e;go_wp2;go_roundw
    case rel=>exact⟨3+1,by omega,by go_num,fun _=>HG.out.1 (by omega),fun _=>HG.out.2.1 (by omega),fun _=>HG.out.2.2.1 (by omega),fun _=>hb,fun h=>by omega,aZ.out⟩
    case measure=>simp[intOf]
  by_cases k4:k=4
  ·subst k4;have HE:Hid (fE (dk fs o) (dF fs o)=fE (dt fs o.values) (eV fs o.values)):=by
    show fE _ _=_;unfold dk dF;rw[HG.out.1 (by omega),HG.out.2.2.1 (by omega),HG.out.2.2.2.1 (by omega)];simp[HG.out.2.1 (by omega)]
   have HX:=sB K fb fs o b1 c1 b2 c2 wr (HA.out.1.later mo.out) (HA.out.2.1.later mo.out) HA.out.2.2.2.1 (HG.out.2.1 (by omega));by_cases hc:dt fs o.values=0
   ·have e:fE (dt fs o.values) (eV fs o.values)=.nilIface:=by unfold fE;rw[if_pos hc]
    rw[e]at HX;have NA:=hid HX;clear HX e;go_wp2_with fail
    refine NA.out.mono ?_;rintro e w4 ⟨rfl,cA⟩;have aZ:=hid (aa HW.out cA);clear cA s0 s1 o0 o1 o2 o3 o4 o5 o6 f0 f1 f2 f3 f4;go_wp2;go_roundw
    case rel=>exact⟨4+1,by omega,by go_num,fun _=>HG.out.1 (by omega),fun _=>HG.out.2.1 (by omega),fun _=>HG.out.2.2.1 (by omega),fun _=>HG.out.2.2.2.1 (by omega),fun _=>hc,aZ.out⟩
    case measure=>simp[intOf]
   ·have e:fE (dt fs o.values) (eV fs o.values)=.iface 261 (.agg #[.int .i64 (dt fs o.values:Nat),.int .i64 (eV fs o.values:Nat)]):=by unfold fE;rw[if_neg hc]
    rw[e]at HX HE;have NA:=hid HX;clear HX e;go_wp2_with fail
    refine NA.out.mono ?_;rintro e w4 ⟨rfl,cA⟩;have aZ:=hid (aa HW.out cA);clear cA s0 s1 o0 o1 o2 o3 o4 o5 o6 f0 f1 f2 f3 f4;go_wp2;go_ret;exact⟨dY HE.out.symm,aa HB.out aZ.out⟩
  obtain rfl:k=5:=by omega
  have HE:Hid (fE (dk fs o) (dF fs o)=.nilIface):=by
   show fE _ _=_;unfold dk dF;rw[HG.out.1 (by omega),HG.out.2.2.1 (by omega),HG.out.2.2.2.1 (by omega),HG.out.2.2.2.2 (by omega)];simp[HG.out.2.1 (by omega),fE]
  go_wp2;go_ret;exact⟨dY HE.out.symm,mo.out⟩
end Go.Proofs.YtbiokpmdghmgcaaGreat
namespace Go.Proofs.YtbiokpmdghmgcaaGreat
open Go.RowKit Go.Deep
def jn (ss:List Shp) (o:Ob):Nat:=if (aN ss&&aK ss o.kind)=true then dk (ss.getD (aB ss o.kind) Shp.none).fields o else 1
def jd (ss:List Shp) (o:Ob):Nat:=if (aN ss&&aK ss o.kind)=true then (if dk (ss.getD (aB ss o.kind) Shp.none).fields o=0 then 0 else dF (ss.getD (aB ss o.kind) Shp.none).fields o) else 0
set_option maxHeartbeats 40000000
def dW (f:Fld) (v res:ByteArray):Int:=if (f.kind==1&&(f.we.toList==res.toList)) then dL v else 0
def cH (fs:List Fld) (vs:List ByteArray) (res:ByteArray):Nat→Int
 |0=>0
 |k+1=>cH fs vs res k+dW (fs.getD k Fld.none) (vs.getD k ByteArray.empty) res
def one (b:Bool):Int:=if b then 1 else 0
def dK (ss:List Shp) (o:Ob) (res:ByteArray):Int:=
 if aT ss o&& !res.toList.isEmpty then one (res.toList==o.kind.toList)+cH (ss.getD (aB ss o.kind) Shp.none).fields o.values res (ss.getD (aB ss o.kind) Shp.none).fields.length else 0
theorem ic (s:ByteArray):0≤dL s∧dL s≤9999999:=by
 unfold dL;cases h:Pl.dU s
 ·simp
 ·simp only[Pl.dU,Bool.and_eq_true,decide_eq_true_eq]at h;obtain⟨⟨⟨_,h7⟩,_⟩,hd⟩:=h;have h8:s.data.toList.take s.size=s.data.toList:=List.take_of_length_le (by rw[Array.length_toList];exact nr);have:=Pl.hN s s.size nr h7 (by rw[h8];exact hd);rw[h8]at this;simp only[if_true];exact this
theorem s8 (s:ByteArray):dL s=if 0<Pl.jl s then Pl.jl s else 0:=by
 have h0:=(ic s).1;unfold dL at*;unfold Pl.jl;cases h:Pl.dU s
 ·simp
 ·simp only[h,if_true]at h0 ⊢;split<;>omega
theorem pJ (f:Fld) (v res:ByteArray):0≤dW f v res∧dW f v res≤9999999:=by
 unfold dW;split
 ·exact ic v
 ·omega
theorem jj (fs:List Fld) (vs:List ByteArray) (res:ByteArray):∀ k,0≤cH fs vs res k∧cH fs vs res k≤k*9999999
 |0=>by simp[cH]
 |k+1=>by
  have h1:=jj fs vs res k;have h2:=pJ (fs.getD k Fld.none) (vs.getD k ByteArray.empty) res;simp only[cH];omega
theorem Db (B:Nat) (u1 u2:Value) (ss:List Shp) (o:Ob) (b1 c1 b2 c2:Nat) (res:ByteArray) (w:World) (h:bh w B ss) (ho:i7 w b1 b2 o) (hz:∀ i,i<o.values.length→(o.values.getD i ByteArray.empty).size≤maxLen):
  Calls Tryz.prog 127 #[.agg #[.slice (some ⟨B,0,none⟩) ss.length ss.length,u1,u2],.agg #[.string o.kind,.string o.name,.string o.team,.slice (some ⟨b1,0,none⟩) o.values.length c1,.bool o.ending,.slice (some ⟨b2,0,none⟩) o.holds.length c2,.int .i64 o.version],.string res] w fun e w'=>e=.returned (.int .i64 (dK ss o res))∧Bel w w':=by
 have HA:=hid (And.intro h ho);have tw:=ho.len1;clear h ho;obtain⟨w0,gx⟩:∃ w0,w0=(w.alloc (.cells #[.slice (some ⟨B,0,none⟩) ss.length ss.length,u1,u2] 40)).alloc (.cells #[.string o.kind,.string o.name,.string o.team,.slice (some ⟨b1,0,none⟩) o.values.length c1,.bool o.ending,.slice (some ⟨b2,0,none⟩) o.holds.length c2,.int .i64 o.version] 111):=⟨_,rfl⟩
 have gd:Hid (Bel w w0):=by show Below _ _ _;rw[gx];exact ab (ab br _) _
 have eU:w0.heap.size=w.heap.size+2:=by rw[gx];simp
 have qF:=hid eU;have hx:w.heap.size+1<w0.heap.size:=by omega
 have J3:w.heap.size<w0.heap.size:=by omega
 have a0:w0.cell? ⟨w.heap.size,0,none⟩=some (.slice (some ⟨B,0,none⟩) ss.length ss.length):=by rw[gx];simp
 have x0:w0.cell? ⟨w.heap.size+1,0,none⟩=some (.string o.kind):=by rw[gx];simp
 have x1:w0.cell? ⟨w.heap.size+1,1,none⟩=some (.string o.name):=by rw[gx];simp
 have x2:w0.cell? ⟨w.heap.size+1,2,none⟩=some (.string o.team):=by rw[gx];simp
 have x3:w0.cell? ⟨w.heap.size+1,3,none⟩=some (.slice (some ⟨b1,0,none⟩) o.values.length c1):=by rw[gx];simp
 have x4:w0.cell? ⟨w.heap.size+1,4,none⟩=some (.bool o.ending):=by rw[gx];simp
 have x5:w0.cell? ⟨w.heap.size+1,5,none⟩=some (.slice (some ⟨b2,0,none⟩) o.holds.length c2):=by rw[gx];simp
 have x6:w0.cell? ⟨w.heap.size+1,6,none⟩=some (.int .i64 o.version):=by rw[gx];simp
 clear eU;go_enter Tryz.func127,Tryz.ntmps127
 go_upto_region 1 with fail
 rw[← gx];clear gx;go_wp2_with fail
 refine(jx w B ss o _ _ _ _ w0 HA.out.1 gd.out).mono ?_;rintro e w1 ⟨a,n,c,rfl,kS,bl⟩;have cQ:=hid (aa gd.out bl);have dE:Hid (w.heap.size+1<w1.heap.size∧w1.cell? ⟨w.heap.size+1,0,none⟩=some (.string o.kind)∧w1.cell? ⟨w.heap.size+1,3,none⟩=some (.slice (some ⟨b1,0,none⟩) o.values.length c1)):=
  ⟨lo hx bl.size,(bl.cell (p:=⟨w.heap.size+1,0,none⟩) hx).trans x0,(bl.cell (p:=⟨w.heap.size+1,3,none⟩) hx).trans x3⟩
 obtain⟨R,hR⟩:∃ R,R=aT ss o:=⟨_,rfl⟩
 rw[← hR]at kS ⊢;have fg:=hid hR;have nA:=hid kS;clear hR kS bl x0 x1 x2 x3 x4 x5 x6 a0 hx J3 gd;cases R
 ·have HF:Hid (dK ss o res=0):=by show _=_;unfold dK;rw[← fg.out];rfl
  go_wp2;go_ret;exact⟨Pl.aP HF.out.symm,cQ.out⟩
 cases hem:res.toList.isEmpty
 case true=>
  have HF:Hid (dK ss o res=0):=by show _=_;unfold dK;rw[hem];simp
  go_wp2;go_ret;exact⟨Pl.aP HF.out.symm,cQ.out⟩
 obtain⟨b,hv,gW,hf⟩:=nA.out rfl;obtain⟨fs,ea⟩:∃ fs,fs=(ss.getD (aB ss o.kind) Shp.none).fields:=⟨_,rfl⟩
 rw[← ea]at hv hf;injection hv with pE rJ pR
 subst pE rJ pR;have vK:o.values.length=fs.length:=by
  have:=fg.out.symm;unfold aT at this;rw[← ea]at this;simp at this;exact this.2
 have qy:Hid (b<w.heap.size∧(∀ i,i<fs.length→bx w b (i*11) (fs.getD i Fld.none))∧fs.length≤1048576):=⟨gW,hf,by omega⟩
 have HF:Hid (dK ss o res=one (res.toList==o.kind.toList)+cH fs o.values res fs.length):=by show _=_;unfold dK;rw[← fg.out,hem,← ea];rfl
 clear gW hf ea nA fg;have y0:=dE.out.2.1;have yz:=dE.out.1;obtain⟨kb,Gs⟩:∃ kb,kb=(res.toList==o.kind.toList):=⟨_,rfl⟩
 have M8:=hid Gs;have EN:Hid (∀ k,0≤one kb+cH fs o.values res k∧one kb+cH fs o.values res k≤1+k*9999999):=by
  intro k;have:=jj fs o.values res k;cases kb<;>simp[one]<;>omega
 have LX:=Gs.symm;obtain⟨K,hK⟩:∃ K,K=one kb:=⟨_,rfl⟩
 have HK:=hid hK;rw[← hK]at EN;clear Gs hK;cases kb
 all_goals
  go_wp2;clear y0 yz;go_loopw [9,10,11] (fun s9 yL s11 wr=>∃ q:Nat,q≤fs.length∧yL=.int .i64 q∧s9=.int .i64 (K+cH fs o.values res q)∧Bel w1 wr) (fun _ yL _ _=>fs.length - (intOf yL).toNat)
  case atStart=>exact⟨0,nz,rfl,by rw[HK.out];rfl,br⟩
  case round=>
   obtain⟨q,hq,rfl,rfl,hW⟩:=hrel;have ET:=qy.out.2.2;have Mj:=EN.out q;have EJ:=(hW.cell (p:=⟨w.heap.size+1,3,none⟩) dE.out.1).trans dE.out.2.2;have xd:=lo dE.out.1 hW.size;have fw:=hid (aa cQ.out hW);obtain⟨sm,dQ⟩:∃ sm,sm=K+cH fs o.values res q:=⟨_,rfl⟩
   have nH:=hid dQ;rw[← dQ]at Mj ⊢;clear dQ;by_cases av:q<fs.length
   ·obtain⟨f,hf⟩:∃ f,f=fs.getD q Fld.none:=⟨_,rfl⟩
    obtain⟨v,hv⟩:∃ v,v=o.values.getD q ByteArray.empty:=⟨_,rfl⟩
    obtain⟨bw,_,_,dP⟩:=qy.out.2.1 q av;rw[← hf]at dP;have c:=fun j=>fw.out.cell (p:=⟨b,j,none⟩) qy.out.1;have f1:=(c _).trans dP.c1;have f10:=(c _).trans dP.c10;have B1:=lo qy.out.1 fw.out.size;have vH:=lo HA.out.2.lt1 fw.out.size;have v1:=(fw.out.cell (p:=⟨b1,q,none⟩) HA.out.2.lt1).trans (HA.out.2.at1 q (by omega));rw[← hv]at v1;have J2:v.size≤maxLen:=by rw[hv];exact hz q (by omega)
    have hF:Hid (cH fs o.values res (q+1)=cH fs o.values res q+dW f v res):=by show _=_;simp only[cH];rw[← hf,← hv]
    have HN:=hid (jU v wr J2);have K6:=s8 v;have I9:=ic v;obtain⟨kn,Gy⟩:∃ kn,kn=Pl.jl v:=⟨_,rfl⟩
    rw[← Gy]at K6;have KV:=hid K6;have hk1:kn≤9999999:=by rw[K6]at I9;split at I9<;>omega
    rw[← Gy]at HN;clear hf hv J2 dP c Gy K6 I9;go_wp2_with fail
    refine HN.out.mono ?_;rintro e wx ⟨rfl,rfl⟩;cases h1:(f.kind==1)
    ·have HE:Hid (dW f v res=0):=by show _=_;unfold dW;rw[h1];rfl
     go_wp2;go_roundw
     case rel=>exact⟨q+1,by omega,by go_num,by rw[hF.out,HE.out,nH.out,Int.add_zero],hW⟩
     case measure=>simp[intOf];omega
    ·cases h2:(f.we.toList==res.toList)
     ·have HE:Hid (dW f v res=0):=by show _=_;unfold dW;rw[h1,h2];rfl
      go_wp2;go_roundw
      case rel=>exact⟨q+1,by omega,by go_num,by rw[hF.out,HE.out,nH.out,Int.add_zero],hW⟩
      case measure=>simp[intOf];omega
     ·have HE:Hid (dW f v res=dL v):=by show _=_;unfold dW;rw[h1,h2];rfl
      by_cases h3:0<kn
      ·have HD:Hid (dL v=kn):=by show _=_;rw[KV.out,if_pos h3]
       go_wp2;go_roundw
       case rel=>exact⟨q+1,by omega,by go_num,by rw[hF.out,HE.out,HD.out,← Int.add_assoc,← nH.out],hW⟩
       case measure=>simp[intOf];omega
      ·have HD:Hid (dL v=0):=by show _=_;rw[KV.out,if_neg h3]
       have EF:decide (0<kn)=false:=by simpa using h3
       go_wp2;go_roundw
       case rel=>exact⟨q+1,by omega,by go_num,by rw[hF.out,HE.out,HD.out,nH.out,Int.add_zero],hW⟩
       case measure=>simp[intOf];omega
   ·obtain rfl:q=fs.length:=by omega
    go_wp2;go_ret;exact⟨Pl.aP (by rw[HF.out,← M8.out,← HK.out,nH.out]),fw.out⟩
theorem CG (B:Nat) (u1 u2:Value) (ss:List Shp) (o:Ob) (b1 c1 b2 c2:Nat) (res:ByteArray) (w:World) (h:bh w B ss) (ho:i7 w b1 b2 o) (hz:∀ i,i<o.values.length→(o.values.getD i ByteArray.empty).size≤maxLen):
  Calls Tryz.prog 190 #[.agg #[.slice (some ⟨B,0,none⟩) ss.length ss.length,u1,u2],.agg #[.string o.kind,.string o.name,.string o.team,.slice (some ⟨b1,0,none⟩) o.values.length c1,.bool o.ending,.slice (some ⟨b2,0,none⟩) o.holds.length c2,.int .i64 o.version],.string res] w fun e w'=>e=.returned (.int .i64 (dK ss o res))∧Bel w w':=by
 have HA:=hid (And.intro h ho);have tw:=ho.len1;clear h ho;obtain⟨w0,gx⟩:∃ w0,w0=(w.alloc (.cells #[.slice (some ⟨B,0,none⟩) ss.length ss.length,u1,u2] 40)).alloc (.cells #[.string o.kind,.string o.name,.string o.team,.slice (some ⟨b1,0,none⟩) o.values.length c1,.bool o.ending,.slice (some ⟨b2,0,none⟩) o.holds.length c2,.int .i64 o.version] 111):=⟨_,rfl⟩
 have gd:Hid (Bel w w0):=by show Below _ _ _;rw[gx];exact ab (ab br _) _
 have eU:w0.heap.size=w.heap.size+2:=by rw[gx];simp
 have hx:w.heap.size+1<w0.heap.size:=by omega
 have J3:w.heap.size<w0.heap.size:=by omega
 have a0:w0.cell? ⟨w.heap.size,0,none⟩=some (.slice (some ⟨B,0,none⟩) ss.length ss.length):=by rw[gx];simp
 have x0:w0.cell? ⟨w.heap.size+1,0,none⟩=some (.string o.kind):=by rw[gx];simp
 have x3:w0.cell? ⟨w.heap.size+1,3,none⟩=some (.slice (some ⟨b1,0,none⟩) o.values.length c1):=by rw[gx];simp
 clear eU;go_enter Tryz.func190,Tryz.ntmps190
 go_upto_region 1 with fail
 rw[← gx];clear gx;go_wp2_with fail
 refine(jL w B ss o.kind w0 HA.out.1 gd.out).mono ?_;rintro e w1 ⟨kd,a,n,c,rfl,kS,bl⟩;have cQ:=hid (aa gd.out bl);have dE:Hid (w.heap.size+1<w1.heap.size∧w1.cell? ⟨w.heap.size+1,0,none⟩=some (.string o.kind)∧w1.cell? ⟨w.heap.size+1,3,none⟩=some (.slice (some ⟨b1,0,none⟩) o.values.length c1)):=
  ⟨lo hx bl.size,(bl.cell (p:=⟨w.heap.size+1,0,none⟩) hx).trans x0,(bl.cell (p:=⟨w.heap.size+1,3,none⟩) hx).trans x3⟩
 obtain⟨R,hR⟩:∃ R,R=aK ss o.kind:=⟨_,rfl⟩
 rw[← hR];have fg:=hid hR;have nA:=hid kS;clear hR kS bl x0 x3 a0 hx J3 gd;have yz:=dE.out.1;have y0:=dE.out.2.1;have y3:=dE.out.2.2;have iH:Hid (Bel w (w1.alloc (.cells #[.string kd,.slice a n c] 134))):=ab cQ.out _;cases hem:res.toList.isEmpty
 case true=>
  have HF:Hid (dK ss o res=0):=by show _=_;unfold dK;rw[hem];simp
  go_wp2;go_ret;exact⟨Pl.aP HF.out.symm,iH.out⟩
 case false=>
 cases R
 ·have HF:Hid (dK ss o res=0):=by show _=_;unfold dK aT;rw[← fg.out];rfl
  go_wp2;go_ret;exact⟨Pl.aP HF.out.symm,iH.out⟩
 obtain⟨yT,b,hv,gW,hf⟩:=nA.out fg.out.symm;obtain⟨fs,ea⟩:∃ fs,fs=(ss.getD (aB ss o.kind) Shp.none).fields:=⟨_,rfl⟩
 rw[← ea]at hv hf;injection hv with pE rJ pR
 subst pE rJ pR;by_cases heq:o.values.length=fs.length
 case neg=>
  have HF:Hid (dK ss o res=0):=by show _=_;unfold dK aT;rw[← ea,decide_eq_false heq];simp
  have fe:(((o.values.length:Int)) !=(fs.length:Int))=true:=by simp;omega
  clear yT gW hf ea nA fg;go_wp2_with fail
  all_goals (try (go_quiet (fail)))
  all_goals go_wp2
  go_ret;exact⟨Pl.aP HF.out.symm,by repeat(first|exact iH.out|refine al ?_ _)⟩
 have fe:(((o.values.length:Int)) !=(fs.length:Int))=false:=by simp;omega
 have qy:Hid (b<w.heap.size∧(∀ i,i<fs.length→bx w b (i*11) (fs.getD i Fld.none))∧fs.length≤1048576∧o.values.length=fs.length):=⟨gW,hf,by omega,heq⟩
 have HF:Hid (dK ss o res=one (res.toList==o.kind.toList)+cH fs o.values res fs.length):=by show _=_;unfold dK aT;rw[← fg.out,hem,← ea,decide_eq_true heq];rfl
 clear gW hf ea nA fg yT heq;obtain⟨kb,Gs⟩:∃ kb,kb=(res.toList==o.kind.toList):=⟨_,rfl⟩
 have M8:=hid Gs;have EN:Hid (∀ k,0≤one kb+cH fs o.values res k∧one kb+cH fs o.values res k≤1+k*9999999):=by
  intro k;have:=jj fs o.values res k;cases kb<;>simp[one]<;>omega
 have LX:=Gs.symm;obtain⟨K,hK⟩:∃ K,K=one kb:=⟨_,rfl⟩
 have HK:=hid hK;rw[← hK]at EN;clear Gs hK;obtain⟨w2,gQ⟩:∃ w2,w2=w1.alloc (.cells #[.string kd,.slice (some ⟨b,0,none⟩) fs.length fs.length] 134):=⟨_,rfl⟩
 rw[← gQ]at iH;have K9:Hid (w.heap.size+1<w2.heap.size∧w2.cell? ⟨w.heap.size+1,0,none⟩=some (.string o.kind)∧w2.cell? ⟨w.heap.size+1,3,none⟩=some (.slice (some ⟨b1,0,none⟩) o.values.length c1)):=by
  show _∧_∧_;rw[gQ];exact⟨by simp;omega,(World.cell?_alloc_past _ _ _ yz).trans y0,(World.cell?_alloc_past _ _ _ yz).trans y3⟩
 have NC:Hid (w1.heap.size<w2.heap.size∧w2.cell? ⟨w1.heap.size,0,none⟩=some (.string kd)∧w2.cell? ⟨w1.heap.size,1,none⟩=some (.slice (some ⟨b,0,none⟩) fs.length fs.length)):=by
  show _∧_∧_;rw[gQ];exact⟨by simp,by simp,by simp⟩
 go_upto_region 2 with fail
 rw[← gQ];clear gQ yz y0 y3;obtain⟨yz,y0,y3⟩:=K9.out;obtain⟨gz,g0,g1⟩:=NC.out;cases kb
 all_goals
  go_wp2;clear yz y0 y3 gz g0 g1;go_loopw [9,10,11,12,13,44] (fun s9 yL s11 s12 s13 cI wr=>∃ q:Nat,q≤fs.length∧cI=.int .i64 q∧s9=.int .i64 (K+cH fs o.values res q)∧Bel w2 wr) (fun _ _ _ _ _ cI _=>fs.length - (intOf cI).toNat)
  case atStart=>exact⟨0,nz,rfl,by rw[HK.out];rfl,br⟩
  case round=>
   obtain⟨q,hq,rfl,rfl,hW⟩:=hrel;have ET:=qy.out.2.2.1;have Mj:=EN.out q;have EJ:=(hW.cell (p:=⟨w.heap.size+1,3,none⟩) K9.out.1).trans K9.out.2.2;have xd:=lo K9.out.1 hW.size;have fw:=hid (aa iH.out hW);have Gn:Hid (∀ o',Bel w2 (wr.alloc o')):=fun o'=>ab hW o';obtain⟨sm,dQ⟩:∃ sm,sm=K+cH fs o.values res q:=⟨_,rfl⟩
   have nH:=hid dQ;rw[← dQ]at Mj ⊢;clear dQ;by_cases av:q<fs.length
   ·have hvq:q<o.values.length:=by rw[qy.out.2.2.2];exact av
    obtain⟨f,hf⟩:∃ f,f=fs.getD q Fld.none:=⟨_,rfl⟩
    obtain⟨v,hv⟩:∃ v,v=o.values.getD q ByteArray.empty:=⟨_,rfl⟩
    obtain⟨bw,_,_,dP⟩:=qy.out.2.1 q av;rw[← hf]at dP;have c:=fun j=>fw.out.cell (p:=⟨b,j,none⟩) qy.out.1;have f0:=(c _).trans dP.c0;have f1:=(c _).trans dP.c1;have f2:=(c _).trans dP.c2;have f3:=(c _).trans dP.c3;have f4:=(c _).trans dP.c4;have f5:=(c _).trans dP.c5;have f6:=(c _).trans dP.c6;have f7:=(c _).trans dP.c7;have f8:=(c _).trans dP.c8;have f9:=(c _).trans dP.c9;have f10:=(c _).trans dP.c10;have B1:=lo qy.out.1 fw.out.size;have vH:=lo HA.out.2.lt1 fw.out.size;have v1:=(fw.out.cell (p:=⟨b1,q,none⟩) HA.out.2.lt1).trans (HA.out.2.at1 q hvq);rw[← hv]at v1;have J2:v.size≤maxLen:=by rw[hv];exact hz q hvq
    have hF:Hid (cH fs o.values res (q+1)=cH fs o.values res q+dW f v res):=by show _=_;simp only[cH];rw[← hf,← hv]
    have HN:=hid fun (W:World)=>kk v W J2;have I9:=ic v;obtain⟨kn,Gy⟩:∃ kn,kn=dL v:=⟨_,rfl⟩
    have KV:=hid Gy.symm;rw[← Gy]at HN I9;clear hf hv J2 dP c Gy;cases h1:(f.kind==1)
    ·have HE:Hid (dW f v res=0):=by show _=_;unfold dW;rw[h1];rfl
     go_wp2;go_roundw
     case rel=>exact⟨q+1,by omega,by go_num,by rw[hF.out,HE.out,nH.out,Int.add_zero],Gn.out _⟩
     case measure=>simp[intOf];omega
    ·cases h2:(f.we.toList==res.toList)
     ·have HE:Hid (dW f v res=0):=by show _=_;unfold dW;rw[h1,h2];rfl
      go_wp2;go_roundw
      case rel=>exact⟨q+1,by omega,by go_num,by rw[hF.out,HE.out,nH.out,Int.add_zero],Gn.out _⟩
      case measure=>simp[intOf];omega
     ·have HE:Hid (dW f v res=dL v):=by show _=_;unfold dW;rw[h1,h2];rfl
      go_wp2_with fail
      refine(HN.out _).mono ?_;rintro e wx ⟨rfl,rfl⟩;go_wp2;go_roundw
      case rel=>exact⟨q+1,by omega,by go_num,by rw[hF.out,HE.out,KV.out,← Int.add_assoc,← nH.out],Gn.out _⟩
      case measure=>simp[intOf];omega
   ·obtain rfl:q=fs.length:=by omega
    go_wp2;go_ret;exact⟨Pl.aP (by rw[HF.out,← M8.out,← HK.out,nH.out]),fw.out⟩
def fR (L:Lw) (os:List Ob) (team res:ByteArray):Nat→Int
 |0=>0
 |k+1=>if under L.teams (os.getD k Ob.none).team team then wrap64 (fR L os team res k+dK L.shapes (os.getD k Ob.none) res) else fR L os team res k
def used (L:Lw) (K:Bk) (team res:ByteArray):Int:=fR L K.objects team res K.objects.length
theorem Ev (L:Lw) (K:Bk) (a0 a1 a2 e0 e1 e2 e3:Nat) (team res:ByteArray) (w:World) (hL:fT w a0 a1 a2 L) (hK:fG w e0 e1 e2 e3 K):
  Calls Tryz.prog 72 #[.agg #[.slice (some ⟨a0,0,none⟩) L.shapes.length L.shapes.length,.slice (some ⟨a1,0,none⟩) L.mends.length L.mends.length,.slice (some ⟨a2,0,none⟩) L.teams.length L.teams.length],.agg #[.int .i64 K.now,.int .i64 K.tick,.int .i64 K.given,.slice (some ⟨e0,0,none⟩) K.objects.length K.objects.length,.slice (some ⟨e1,0,none⟩) K.grants.length K.grants.length,.slice (some ⟨e2,0,none⟩) K.ledgers.length K.ledgers.length,.slice (some ⟨e3,0,none⟩) K.purses.length K.purses.length],.string team,.string res] w fun e w'=>e=.returned (.int .i64 (used L K team res))∧Bel w w':=by
 have HA:=hid (And.intro hL hK);have hl:=hK.o.len;clear hL hK;obtain⟨w1,eb⟩:∃ w1,w1=(w.alloc (.cells #[.slice (some ⟨a0,0,none⟩) L.shapes.length L.shapes.length,.slice (some ⟨a1,0,none⟩) L.mends.length L.mends.length,.slice (some ⟨a2,0,none⟩) L.teams.length L.teams.length] 40)).alloc (.cells #[.int .i64 K.now,.int .i64 K.tick,.int .i64 K.given,.slice (some ⟨e0,0,none⟩) K.objects.length K.objects.length,.slice (some ⟨e1,0,none⟩) K.grants.length K.grants.length,.slice (some ⟨e2,0,none⟩) K.ledgers.length K.ledgers.length,.slice (some ⟨e3,0,none⟩) K.purses.length K.purses.length] 47):=⟨_,rfl⟩
 have cQ:Hid (Bel w w1):=by show Below _ _ _;rw[eb];exact ab (ab br _) _
 have dE:Hid (bC w1 w.heap.size (.slice (some ⟨a0,0,none⟩) L.shapes.length L.shapes.length) (.slice (some ⟨a1,0,none⟩) L.mends.length L.mends.length) (.slice (some ⟨a2,0,none⟩) L.teams.length L.teams.length)∧bd w1 (w.heap.size+1) (.int .i64 K.now) (.int .i64 K.tick) (.int .i64 K.given) (.slice (some ⟨e0,0,none⟩) K.objects.length K.objects.length) (.slice (some ⟨e1,0,none⟩) K.grants.length K.grants.length) (.slice (some ⟨e2,0,none⟩) K.ledgers.length K.ledgers.length) (.slice (some ⟨e3,0,none⟩) K.purses.length K.purses.length)):=by show _∧_;rw[eb];exact⟨(bC.bp w _ _ _ _ _ rfl).cy _,bd.bp _ _ _ _ _ _ _ _ _ _ (by simp)⟩
 obtain⟨lz,l0,l1,l2⟩:=dE.out.1;obtain⟨kz,k0,k1,k2,k3,k4,k5,k6⟩:=dE.out.2;go_enter Tryz.func72,Tryz.ntmps72
 go_upto_region 1 with fail
 rw[← eb];clear eb;go_wp2;clear lz l0 l1 l2 kz k0 k1 k2 k3 k4 k5 k6;go_loopw [9,10] (fun s9 yL wr=>∃ q:Nat,q≤K.objects.length∧yL=.int .i64 q∧s9=.int .i64 (fR L K.objects team res q)∧Bel w1 wr) (fun _ yL _=>K.objects.length - (intOf yL).toNat)
 case atStart=>exact⟨0,nz,rfl,rfl,br⟩
 case round=>
   obtain⟨q,hq,rfl,rfl,hW⟩:=hrel;obtain⟨lz,l0,l1,l2⟩:=dE.out.1.later hW;obtain⟨kz,k0,k1,k2,k3,k4,k5,k6⟩:=dE.out.2.later hW;obtain⟨sm,dQ⟩:∃ sm,sm=fR L K.objects team res q:=⟨_,rfl⟩
   have nH:=hid dQ;rw[← dQ];clear dQ;have fw:=hid (aa cQ.out hW);have rH:=hid hW;by_cases av:q<K.objects.length
   ·obtain⟨o,ho⟩:∃ o,o=K.objects.getD q Ob.none:=⟨_,rfl⟩
    obtain⟨b1,b2,_,c0,c1,c2,c3,c4,c5,c6,tA⟩:=(HA.out.2.later fw.out).o.at_ q av;rw[← ho]at c0 c1 c2 c3 c4 c5 c6 tA;have gJ:=(HA.out.2.later fw.out).o.lt;have hF:Hid (fR L K.objects team res (q+1)=if under L.teams o.team team then wrap64 (fR L K.objects team res q+dK L.shapes o res) else fR L K.objects team res q):=by show _=_;simp only[fR];rw[← ho]
    have kR:=hid (And.intro tA (HA.out.1.later fw.out));have HU:=hid fun (W:World) (hW:Bel wr W)=>uC a2 L.teams o.team team W (kR.out.2.later hW).t;have HG:Hid (∀ W,Bel wr W→Calls Tryz.prog 127 #[.agg #[.slice (some ⟨a0,0,none⟩) L.shapes.length L.shapes.length,.slice (some ⟨a1,0,none⟩) L.mends.length L.mends.length,.slice (some ⟨a2,0,none⟩) L.teams.length L.teams.length],.agg #[.string o.kind,.string o.name,.string o.team,.slice (some ⟨b1,0,none⟩) o.values.length o.values.length,.bool o.ending,.slice (some ⟨b2,0,none⟩) o.holds.length o.holds.length,.int .i64 o.version],.string res] W fun e w'=>e=.returned (.int .i64 (dK L.shapes o res))∧Bel W w'):=fun W hW=>Db a0 _ _ L.shapes o b1 _ b2 _ res W (kR.out.2.later hW).s (kR.out.1.later hW).arg kR.out.1.z1;obtain⟨wg,vC⟩:∃ wg,wg=dK L.shapes o res:=⟨_,rfl⟩
    rw[← vC]at HG hF;obtain⟨bu,JK⟩:∃ bu,bu=under L.teams o.team team:=⟨_,rfl⟩
    rw[← JK]at HU hF;clear vC JK ho tA;go_wp2_with fail
    go_region_with (go_at_call 126;refine(HU.out _ ?_).mono ?_;(repeat(first|exact br|refine Below.drew ?_));rintro e w2 ⟨rfl,rfl⟩)
    all_goals
     cases bu
     ·go_wp2;go_roundw
      case rel=>exact⟨q+1,by omega,by go_num,by rw[hF.out,nH.out];rfl,by repeat(first|exact rH.out|refine Below.drew ?_)⟩
      case measure=>simp[intOf];omega
     ·go_wp2_with fail
      go_region_with (go_at_call 127;refine(HG.out _ ?_).mono ?_;(repeat(first|exact br|refine Below.drew ?_));rintro e w3 ⟨rfl,aO⟩;have k3':Bel wr w3:=aa (by repeat(first|exact br|refine Below.drew ?_)) aO;clear aO)
      all_goals
       go_wp2;go_roundw
       case rel=>exact⟨q+1,by omega,by go_num,by rw[hF.out,nH.out];rfl,by repeat(first|exact aa rH.out k3'|refine Below.drew ?_)⟩
       case measure=>simp[intOf];omega
   ·obtain rfl:q=K.objects.length:=by omega
    go_wp2;go_ret;exact⟨Pl.aP (by rw[nH.out];rfl),fw.out⟩
theorem IK (L:Lw) (K:Bk) (a0 a1 a2 e0 e1 e2 e3:Nat) (team res:ByteArray) (w:World) (hL:fT w a0 a1 a2 L) (hK:fG w e0 e1 e2 e3 K):
  Calls Tryz.prog 150 #[.agg #[.slice (some ⟨a0,0,none⟩) L.shapes.length L.shapes.length,.slice (some ⟨a1,0,none⟩) L.mends.length L.mends.length,.slice (some ⟨a2,0,none⟩) L.teams.length L.teams.length],.agg #[.int .i64 K.now,.int .i64 K.tick,.int .i64 K.given,.slice (some ⟨e0,0,none⟩) K.objects.length K.objects.length,.slice (some ⟨e1,0,none⟩) K.grants.length K.grants.length,.slice (some ⟨e2,0,none⟩) K.ledgers.length K.ledgers.length,.slice (some ⟨e3,0,none⟩) K.purses.length K.purses.length],.string team,.string res] w fun e w'=>e=.returned (.int .i64 (used L K team res))∧Bel w w':=by
 have HA:=hid (And.intro hL hK);have hl:=hK.o.len;clear hL hK;obtain⟨w1,eb⟩:∃ w1,w1=(w.alloc (.cells #[.slice (some ⟨a0,0,none⟩) L.shapes.length L.shapes.length,.slice (some ⟨a1,0,none⟩) L.mends.length L.mends.length,.slice (some ⟨a2,0,none⟩) L.teams.length L.teams.length] 40)).alloc (.cells #[.int .i64 K.now,.int .i64 K.tick,.int .i64 K.given,.slice (some ⟨e0,0,none⟩) K.objects.length K.objects.length,.slice (some ⟨e1,0,none⟩) K.grants.length K.grants.length,.slice (some ⟨e2,0,none⟩) K.ledgers.length K.ledgers.length,.slice (some ⟨e3,0,none⟩) K.purses.length K.purses.length] 47):=⟨_,rfl⟩
 have cQ:Hid (Bel w w1):=by show Below _ _ _;rw[eb];exact ab (ab br _) _
 have dE:Hid (bC w1 w.heap.size (.slice (some ⟨a0,0,none⟩) L.shapes.length L.shapes.length) (.slice (some ⟨a1,0,none⟩) L.mends.length L.mends.length) (.slice (some ⟨a2,0,none⟩) L.teams.length L.teams.length)∧bd w1 (w.heap.size+1) (.int .i64 K.now) (.int .i64 K.tick) (.int .i64 K.given) (.slice (some ⟨e0,0,none⟩) K.objects.length K.objects.length) (.slice (some ⟨e1,0,none⟩) K.grants.length K.grants.length) (.slice (some ⟨e2,0,none⟩) K.ledgers.length K.ledgers.length) (.slice (some ⟨e3,0,none⟩) K.purses.length K.purses.length)):=by show _∧_;rw[eb];exact⟨(bC.bp w _ _ _ _ _ rfl).cy _,bd.bp _ _ _ _ _ _ _ _ _ _ (by simp)⟩
 obtain⟨lz,l0,l1,l2⟩:=dE.out.1;obtain⟨kz,k0,k1,k2,k3,k4,k5,k6⟩:=dE.out.2;go_enter Tryz.func150,Tryz.ntmps150
 go_upto_region 1 with fail
 rw[← eb];clear eb;go_wp2;clear lz l0 l1 l2 kz k0 k1 k2 k3 k4 k5 k6;go_loopw [9,11,15] (fun s9 s11 s15 wr=>∃ q:Nat,q≤K.objects.length∧s15=.int .i64 q∧s9=.int .i64 (fR L K.objects team res q)∧Bel w1 wr) (fun _ _ s15 _=>K.objects.length - (intOf s15).toNat)
 case atStart=>exact⟨0,nz,rfl,rfl,br⟩
 case round=>
   obtain⟨q,hq,rfl,rfl,hW⟩:=hrel;obtain⟨lz,l0,l1,l2⟩:=dE.out.1.later hW;obtain⟨kz,k0,k1,k2,k3,k4,k5,k6⟩:=dE.out.2.later hW;obtain⟨sm,dQ⟩:∃ sm,sm=fR L K.objects team res q:=⟨_,rfl⟩
   have nH:=hid dQ;rw[← dQ];clear dQ;have fw:=hid (aa cQ.out hW);have rH:=hid hW;by_cases av:q<K.objects.length
   ·obtain⟨o,ho⟩:∃ o,o=K.objects.getD q Ob.none:=⟨_,rfl⟩
    obtain⟨b1,b2,_,c0,c1,c2,c3,c4,c5,c6,tA⟩:=(HA.out.2.later fw.out).o.at_ q av;rw[← ho]at c0 c1 c2 c3 c4 c5 c6 tA;have gJ:=(HA.out.2.later fw.out).o.lt;have hF:Hid (fR L K.objects team res (q+1)=if under L.teams o.team team then wrap64 (fR L K.objects team res q+dK L.shapes o res) else fR L K.objects team res q):=by show _=_;simp only[fR];rw[← ho]
    have kR:=hid (And.intro tA (HA.out.1.later fw.out));have HU:=hid fun (W:World) (hW:Bel wr W)=>Ah a2 L.teams o.team team W (kR.out.2.later hW).t;have HG:Hid (∀ W,Bel wr W→Calls Tryz.prog 190 #[.agg #[.slice (some ⟨a0,0,none⟩) L.shapes.length L.shapes.length,.slice (some ⟨a1,0,none⟩) L.mends.length L.mends.length,.slice (some ⟨a2,0,none⟩) L.teams.length L.teams.length],.agg #[.string o.kind,.string o.name,.string o.team,.slice (some ⟨b1,0,none⟩) o.values.length o.values.length,.bool o.ending,.slice (some ⟨b2,0,none⟩) o.holds.length o.holds.length,.int .i64 o.version],.string res] W fun e w'=>e=.returned (.int .i64 (dK L.shapes o res))∧Bel W w'):=fun W hW=>CG a0 _ _ L.shapes o b1 _ b2 _ res W (kR.out.2.later hW).s (kR.out.1.later hW).arg kR.out.1.z1;obtain⟨wg,vC⟩:∃ wg,wg=dK L.shapes o res:=⟨_,rfl⟩
    rw[← vC]at HG hF;obtain⟨bu,JK⟩:∃ bu,bu=under L.teams o.team team:=⟨_,rfl⟩
    rw[← JK]at HU hF;clear vC JK ho tA;obtain⟨wx,KH⟩:∃ wx,wx=wr.alloc (.cells #[.string o.kind,.string o.name,.string o.team,.slice (some ⟨b1,0,none⟩) o.values.length o.values.length,.bool o.ending,.slice (some ⟨b2,0,none⟩) o.holds.length o.holds.length,.int .i64 o.version] 111):=⟨_,rfl⟩
    have Mi:Hid (Bel wr wx):=by show Below _ _ _;rw[KH];exact ab br _
    have pn:Hid (bd wx wr.heap.size (.string o.kind) (.string o.name) (.string o.team) (.slice (some ⟨b1,0,none⟩) o.values.length o.values.length) (.bool o.ending) (.slice (some ⟨b2,0,none⟩) o.holds.length o.holds.length) (.int .i64 o.version)∧bC wx w.heap.size (.slice (some ⟨a0,0,none⟩) L.shapes.length L.shapes.length) (.slice (some ⟨a1,0,none⟩) L.mends.length L.mends.length) (.slice (some ⟨a2,0,none⟩) L.teams.length L.teams.length)):=by
     show _∧_;rw[KH];exact⟨bd.bp _ _ _ _ _ _ _ _ _ _ rfl,((dE.out.1.later rH.out).later (ab br _))⟩
    go_upto_region 5 with fail
    rw[← KH];clear KH lz l0 l1 l2 kz k0 k1 k2 k3 k4 k5 k6 c0 c1 c2 c3 c4 c5 c6 gJ;obtain⟨xz,x0,x1,x2,x3,x4,x5,x6⟩:=pn.out.1;obtain⟨lz,l0,l1,l2⟩:=pn.out.2;go_wp2_with fail
    refine(HU.out _ Mi.out).mono ?_;rintro e w2 ⟨rfl,aA⟩;have iI:=hid (aa Mi.out aA);have iH:=hid (And.intro (pn.out.1.later aA) (pn.out.2.later aA));clear aA xz x0 x1 x2 x3 x4 x5 x6 lz l0 l1 l2 pn Mi;cases bu
    ·go_wp2;go_roundw
     case rel=>exact⟨q+1,by omega,by go_num,by rw[hF.out,nH.out];rfl,aa rH.out iI.out⟩
     case measure=>simp[intOf];omega
    ·obtain⟨xz,x0,x1,x2,x3,x4,x5,x6⟩:=iH.out.1;obtain⟨lz,l0,l1,l2⟩:=iH.out.2;go_wp2_with fail
     refine(HG.out _ iI.out).mono ?_;rintro e w3 ⟨rfl,aO⟩;have yZ:=hid (aa iI.out aO);clear aO xz x0 x1 x2 x3 x4 x5 x6 lz l0 l1 l2;go_wp2;go_roundw
     case rel=>exact⟨q+1,by omega,by go_num,by rw[hF.out,nH.out];rfl,aa rH.out yZ.out⟩
     case measure=>simp[intOf];omega
   ·obtain rfl:q=K.objects.length:=by omega
    go_wp2;go_ret;exact⟨Pl.aP (by rw[nH.out];rfl),fw.out⟩
theorem vU {α:Type} {p:α→Bool} {l:List α} {d:α} {k:Nat} (hk:k<l.length) (hn:k≤l.findIdx p) (hp:p (l.getD k d)=false):k+1≤l.findIdx p:=by
 refine Nat.lt_of_le_of_ne hn fun e=> ?_;have av:l.findIdx p<l.length:=by omega
 have:=List.findIdx_getElem (w:=av);have e2:l.getD k d=l[l.findIdx p]:=by simp[hk,← e]
 rw[e2,this]at hp;cases hp
theorem zR {α:Type} {p:α→Bool} {l:List α} {d:α} {k:Nat} (hk:k<l.length) (hn:k≤l.findIdx p) (hp:p (l.getD k d)=true):l.findIdx p=k:=by
 refine Nat.le_antisymm (Nat.le_of_not_lt fun h=> ?_) hn;have:=List.not_of_lt_findIdx h;have e2:l.getD k d=l[k]:=by simp[hk]
 rw[e2]at hp;rw[this]at hp;cases hp
def ej (i n:Nat):Int:=if i<n then (i:Int) else -1
def lT (kd nm:ByteArray) (x:Ob):Bool:=(x.kind.toList==kd.toList)&&(x.name.toList==nm.toList)
def kU (l:List Ob) (kd nm:ByteArray):Nat:=l.findIdx (lT kd nm)
theorem Er (K:Bk) (e0 e1 e2 e3:Nat) (kd nm:ByteArray) (w:World) (h:fG w e0 e1 e2 e3 K):
  Calls Tryz.prog 67 #[.agg #[.int .i64 K.now,.int .i64 K.tick,.int .i64 K.given,.slice (some ⟨e0,0,none⟩) K.objects.length K.objects.length,.slice (some ⟨e1,0,none⟩) K.grants.length K.grants.length,.slice (some ⟨e2,0,none⟩) K.ledgers.length K.ledgers.length,.slice (some ⟨e3,0,none⟩) K.purses.length K.purses.length],.string kd,.string nm] w fun e w'=>e=.returned (.int .i64 (ej (kU K.objects kd nm) K.objects.length))∧Bel w w':=by
 have HH:=hid h;have hl:=h.o.len;clear h;obtain⟨R,hR⟩:∃ R,R=ej (kU K.objects kd nm) K.objects.length:=⟨_,rfl⟩
 have HR:=hid hR;rw[← hR];clear hR;obtain⟨wa,ch⟩:∃ wa,wa=w.alloc (.cells #[.int .i64 K.now,.int .i64 K.tick,.int .i64 K.given,.slice (some ⟨e0,0,none⟩) K.objects.length K.objects.length,.slice (some ⟨e1,0,none⟩) K.grants.length K.grants.length,.slice (some ⟨e2,0,none⟩) K.ledgers.length K.ledgers.length,.slice (some ⟨e3,0,none⟩) K.purses.length K.purses.length] 47):=⟨_,rfl⟩
 have cz:Hid (Bel w wa):=by show Below _ _ _;rw[ch];exact ab br _
 have eZ:Hid (bd wa w.heap.size (.int .i64 K.now) (.int .i64 K.tick) (.int .i64 K.given) (.slice (some ⟨e0,0,none⟩) K.objects.length K.objects.length) (.slice (some ⟨e1,0,none⟩) K.grants.length K.grants.length) (.slice (some ⟨e2,0,none⟩) K.ledgers.length K.ledgers.length) (.slice (some ⟨e3,0,none⟩) K.purses.length K.purses.length)):=by show bd _ _ _ _ _ _ _ _ _;rw[ch];exact bd.bp w _ _ _ _ _ _ _ _ _ rfl
 go_enter Tryz.func67,Tryz.ntmps67
 go_upto_region 1 with fail
 rw[← ch];clear ch;obtain⟨yz,y0,y1,y2,y3,y4,y5,y6⟩:=eZ.out;go_wp2;go_loop [7] (fun i=>∃ q:Nat,q≤K.objects.length∧i=.int .i64 q∧q≤kU K.objects kd nm) (fun i=>K.objects.length - (intOf i).toNat)
 case atStart=>exact⟨0,nz,rfl,nz⟩
 case round=>
  obtain⟨q,hq,rfl,hn⟩:=hrel;have HN:=hid hn;clear hn;by_cases av:q<K.objects.length
  ·obtain⟨x,hx⟩:∃ x,x=K.objects.getD q Ob.none:=⟨_,rfl⟩
   have bA:=(HH.out.later cz.out).o;have hB:=bA.lt;have dO:=bA.at_ q av;rw[← hx]at dO;obtain⟨b1,b2,_,c0,c1,c2,c3,c4,c5,c6,_⟩:=dO;have HM:Hid (lT kd nm x=false→q+1≤kU K.objects kd nm):=fun hp=>vU (d:=Ob.none) av HN.out (by rw[← hx];exact hp);have HT:Hid (lT kd nm x=true→R=(q:Int)):=fun hp=>by
    have e:kU K.objects kd nm=q:=zR (d:=Ob.none) av HN.out (by rw[← hx];exact hp);rw[HR.out,e];unfold ej;rw[if_pos av]
   clear hx bA;cases h0:(x.kind.toList==kd.toList)
   ·have HE:=hid (HM.out (by unfold lT;simp[h0]));go_wp2;go_round
    case rel=>exact⟨q+1,by omega,by go_num,HE.out⟩
    case measure=>simp[intOf];omega
   ·skip
    cases h1:(x.name.toList==nm.toList)
    ·have HE:=hid (HM.out (by unfold lT;simp[h0,h1]));go_wp2;go_round
     case rel=>exact⟨q+1,by omega,by go_num,HE.out⟩
     case measure=>simp[intOf];omega
    ·have HE:=hid (HT.out (by unfold lT;simp only[h0,h1];rfl));go_wp2;go_ret;exact⟨Pl.aP HE.out.symm,cz.out⟩
  ·have HE:Hid (R= -1):=by show R= -1;rw[HR.out];unfold ej;rw[if_neg (by have:=HN.out;omega)]
   go_wp2;go_ret;exact⟨Pl.aP HE.out.symm,cz.out⟩
def ld (tm rs:ByteArray) (x:Lg):Bool:=(x.team.toList==tm.toList)&&(x.res.toList==rs.toList)
def ir (l:List Lg) (tm rs:ByteArray):Nat:=l.findIdx (ld tm rs)
theorem Es (K:Bk) (e0 e1 e2 e3:Nat) (tm rs:ByteArray) (w:World) (h:fG w e0 e1 e2 e3 K):
  Calls Tryz.prog 70 #[.agg #[.int .i64 K.now,.int .i64 K.tick,.int .i64 K.given,.slice (some ⟨e0,0,none⟩) K.objects.length K.objects.length,.slice (some ⟨e1,0,none⟩) K.grants.length K.grants.length,.slice (some ⟨e2,0,none⟩) K.ledgers.length K.ledgers.length,.slice (some ⟨e3,0,none⟩) K.purses.length K.purses.length],.string tm,.string rs] w fun e w'=>e=.returned (.int .i64 (ej (ir K.ledgers tm rs) K.ledgers.length))∧Bel w w':=by
 have HH:=hid h;have hl:=h.l.len;clear h;obtain⟨R,hR⟩:∃ R,R=ej (ir K.ledgers tm rs) K.ledgers.length:=⟨_,rfl⟩
 have HR:=hid hR;rw[← hR];clear hR;obtain⟨wa,ch⟩:∃ wa,wa=w.alloc (.cells #[.int .i64 K.now,.int .i64 K.tick,.int .i64 K.given,.slice (some ⟨e0,0,none⟩) K.objects.length K.objects.length,.slice (some ⟨e1,0,none⟩) K.grants.length K.grants.length,.slice (some ⟨e2,0,none⟩) K.ledgers.length K.ledgers.length,.slice (some ⟨e3,0,none⟩) K.purses.length K.purses.length] 47):=⟨_,rfl⟩
 have cz:Hid (Bel w wa):=by show Below _ _ _;rw[ch];exact ab br _
 have eZ:Hid (bd wa w.heap.size (.int .i64 K.now) (.int .i64 K.tick) (.int .i64 K.given) (.slice (some ⟨e0,0,none⟩) K.objects.length K.objects.length) (.slice (some ⟨e1,0,none⟩) K.grants.length K.grants.length) (.slice (some ⟨e2,0,none⟩) K.ledgers.length K.ledgers.length) (.slice (some ⟨e3,0,none⟩) K.purses.length K.purses.length)):=by show bd _ _ _ _ _ _ _ _ _;rw[ch];exact bd.bp w _ _ _ _ _ _ _ _ _ rfl
 go_enter Tryz.func70,Tryz.ntmps70
 go_upto_region 1 with fail
 rw[← ch];clear ch;obtain⟨yz,y0,y1,y2,y3,y4,y5,y6⟩:=eZ.out;go_wp2;go_loop [7] (fun i=>∃ q:Nat,q≤K.ledgers.length∧i=.int .i64 q∧q≤ir K.ledgers tm rs) (fun i=>K.ledgers.length - (intOf i).toNat)
 case atStart=>exact⟨0,nz,rfl,nz⟩
 case round=>
  obtain⟨q,hq,rfl,hn⟩:=hrel;have HN:=hid hn;clear hn;by_cases av:q<K.ledgers.length
  ·obtain⟨x,hx⟩:∃ x,x=K.ledgers.getD q Lg.none:=⟨_,rfl⟩
   have bA:=(HH.out.later cz.out).l;have hB:=bA.lt;have dO:=bA.at_ q av;rw[← hx]at dO;obtain⟨c0,c1,c2,c3,_⟩:=dO;have HM:Hid (ld tm rs x=false→q+1≤ir K.ledgers tm rs):=fun hp=>vU (d:=Lg.none) av HN.out (by rw[← hx];exact hp);have HT:Hid (ld tm rs x=true→R=(q:Int)):=fun hp=>by
    have e:ir K.ledgers tm rs=q:=zR (d:=Lg.none) av HN.out (by rw[← hx];exact hp);rw[HR.out,e];unfold ej;rw[if_pos av]
   clear hx bA;cases h0:(x.team.toList==tm.toList)
   ·have HE:=hid (HM.out (by unfold ld;simp[h0]));go_wp2;go_round
    case rel=>exact⟨q+1,by omega,by go_num,HE.out⟩
    case measure=>simp[intOf];omega
   ·skip
    cases h1:(x.res.toList==rs.toList)
    ·have HE:=hid (HM.out (by unfold ld;simp[h0,h1]));go_wp2;go_round
     case rel=>exact⟨q+1,by omega,by go_num,HE.out⟩
     case measure=>simp[intOf];omega
    ·have HE:=hid (HT.out (by unfold ld;simp only[h0,h1];rfl));go_wp2;go_ret;exact⟨Pl.aP HE.out.symm,cz.out⟩
  ·have HE:Hid (R= -1):=by show R= -1;rw[HR.out];unfold ej;rw[if_neg (by have:=HN.out;omega)]
   go_wp2;go_ret;exact⟨Pl.aP HE.out.symm,cz.out⟩
def jw (l:List Ps) (tm rs:ByteArray):Nat→Int
 |0=>0
 |k+1=>if (((l.getD k Ps.none).team.toList==tm.toList)&&((l.getD k Ps.none).res.toList==rs.toList))=true then wrap64 (jw l tm rs k+(l.getD k Ps.none).amount) else jw l tm rs k
def wL (l:List Ps) (tm rs:ByteArray):Int:=jw l tm rs l.length
theorem zy (K:Bk) (e0 e1 e2 e3:Nat) (tm rs:ByteArray) (w:World) (h:fG w e0 e1 e2 e3 K):
  Calls Tryz.prog 73 #[.agg #[.int .i64 K.now,.int .i64 K.tick,.int .i64 K.given,.slice (some ⟨e0,0,none⟩) K.objects.length K.objects.length,.slice (some ⟨e1,0,none⟩) K.grants.length K.grants.length,.slice (some ⟨e2,0,none⟩) K.ledgers.length K.ledgers.length,.slice (some ⟨e3,0,none⟩) K.purses.length K.purses.length],.string tm,.string rs] w fun e w'=>e=.returned (.int .i64 (wL K.purses tm rs))∧Bel w w':=by
 have HH:=hid h;have hl:=h.p.len;clear h;obtain⟨wa,ch⟩:∃ wa,wa=w.alloc (.cells #[.int .i64 K.now,.int .i64 K.tick,.int .i64 K.given,.slice (some ⟨e0,0,none⟩) K.objects.length K.objects.length,.slice (some ⟨e1,0,none⟩) K.grants.length K.grants.length,.slice (some ⟨e2,0,none⟩) K.ledgers.length K.ledgers.length,.slice (some ⟨e3,0,none⟩) K.purses.length K.purses.length] 47):=⟨_,rfl⟩
 have cz:Hid (Bel w wa):=by show Below _ _ _;rw[ch];exact ab br _
 have eZ:Hid (bd wa w.heap.size (.int .i64 K.now) (.int .i64 K.tick) (.int .i64 K.given) (.slice (some ⟨e0,0,none⟩) K.objects.length K.objects.length) (.slice (some ⟨e1,0,none⟩) K.grants.length K.grants.length) (.slice (some ⟨e2,0,none⟩) K.ledgers.length K.ledgers.length) (.slice (some ⟨e3,0,none⟩) K.purses.length K.purses.length)):=by show bd _ _ _ _ _ _ _ _ _;rw[ch];exact bd.bp w _ _ _ _ _ _ _ _ _ rfl
 go_enter Tryz.func73,Tryz.ntmps73
 go_upto_region 1 with fail
 rw[← ch];clear ch;obtain⟨yz,y0,y1,y2,y3,y4,y5,y6⟩:=eZ.out;go_wp2;go_loop [7,8] (fun s i=>∃ q:Nat,q≤K.purses.length∧i=.int .i64 q∧s=.int .i64 (jw K.purses tm rs q)) (fun _ i=>K.purses.length - (intOf i).toNat)
 case atStart=>exact⟨0,nz,rfl,rfl⟩
 case round=>
  obtain⟨q,hq,rfl,rfl⟩:=hrel;obtain⟨sm,dQ⟩:∃ sm,sm=jw K.purses tm rs q:=⟨_,rfl⟩
  have nH:=hid dQ;rw[← dQ];clear dQ;by_cases av:q<K.purses.length
  ·obtain⟨x,hx⟩:∃ x,x=K.purses.getD q Ps.none:=⟨_,rfl⟩
   have bA:=(HH.out.later cz.out).p;have hB:=bA.lt;have dO:=bA.at_ q av;rw[← hx]at dO;obtain⟨c0,c1,c2,c3,c4,_⟩:=dO;have hF:Hid (jw K.purses tm rs (q+1)=if ((x.team.toList==tm.toList)&&(x.res.toList==rs.toList))=true then wrap64 (sm+x.amount) else sm):=by
    show jw _ _ _ _=_;rw[nH.out,hx];rfl
   clear hx bA;cases h0:(x.team.toList==tm.toList)
   ·have HE:Hid (jw K.purses tm rs (q+1)=sm):=by show _=_;rw[hF.out,h0];rfl
    go_wp2;go_round
    case rel=>exact⟨q+1,by omega,by go_num,by rw[HE.out]⟩
    case measure=>simp[intOf];omega
   ·cases h1:(x.res.toList==rs.toList)
    ·have HE:Hid (jw K.purses tm rs (q+1)=sm):=by show _=_;rw[hF.out,h0,h1];rfl
     go_wp2;go_round
     case rel=>exact⟨q+1,by omega,by go_num,by rw[HE.out]⟩
     case measure=>simp[intOf];omega
    ·have HE:Hid (jw K.purses tm rs (q+1)=wrap64 (sm+x.amount)):=by show _=_;rw[hF.out,h0,h1];rfl
     go_wp2;go_round
     case rel=>exact⟨q+1,by omega,by go_num,by rw[HE.out]⟩
     case measure=>simp[intOf];omega
  ·obtain rfl:q=K.purses.length:=by omega
   go_wp2;go_ret;exact⟨Pl.aP (by rw[nH.out];rfl),cz.out⟩
def ee (us vs:List ByteArray):Bool:=decide (us.length=vs.length)&&aC (fun i=>(us.getD i ByteArray.empty).toList==(vs.getD i ByteArray.empty).toList) vs.length
theorem yF (g c b d:Nat) (us vs:List ByteArray) (w:World) (hu:us.length≤1048576) (hv:vs.length≤1048576) (hg:g<w.heap.size) (hb:b<w.heap.size) (cu:∀ i,i<us.length→w.cell? ⟨g,i,none⟩=some (.string (us.getD i ByteArray.empty))) (cv:∀ i,i<vs.length→w.cell? ⟨b,i,none⟩=some (.string (vs.getD i ByteArray.empty))):
  Calls Tryz.prog 64 #[.slice (some ⟨g,0,none⟩) us.length c,.slice (some ⟨b,0,none⟩) vs.length d] w fun e w'=>e=.returned (.bool (ee us vs))∧Bel w w':=by
 obtain⟨R,hR⟩:∃ R,R=ee us vs:=⟨_,rfl⟩
 have HR:=hid hR;rw[← hR];clear hR;go_enter Tryz.func64,Tryz.ntmps64
 by_cases fe:us.length=vs.length
 ·obtain⟨n,hn⟩:∃ n,n=vs.length:=⟨_,rfl⟩
  have JV:Hid (R=aC (fun i=>(us.getD i ByteArray.empty).toList==(vs.getD i ByteArray.empty).toList) n):=by show R=_;rw[HR.out,hn];unfold ee;simp[fe]
  rw[fe]at cu hu ⊢;rw[← hn]at cu cv hu hv ⊢;clear fe hn HR;go_wp2;go_loopw [5] (fun i wr=>∃ q:Nat,q≤n∧i=.int .i64 q∧aC (fun i=>(us.getD i ByteArray.empty).toList==(vs.getD i ByteArray.empty).toList) q=true∧Bel w wr) (fun i _=>n - (intOf i).toNat)
  case atStart=>exact⟨0,nz,rfl,rfl,br⟩
  case round=>
   obtain⟨q,hq,rfl,ha,hW⟩:=hrel;have HA:=hid ha;clear ha;by_cases av:q<n
   ·have k1:=(hW.cell (p:=⟨g,q,none⟩) hg).trans (cu q av);have k2:=(hW.cell (p:=⟨b,q,none⟩) hb).trans (cv q av);obtain⟨x,hx⟩:∃ x,x=us.getD q ByteArray.empty:=⟨_,rfl⟩
    obtain⟨y,hy⟩:∃ y,y=vs.getD q ByteArray.empty:=⟨_,rfl⟩
    rw[← hx]at k1;rw[← hy]at k2;have HS:Hid ((fun i=>(us.getD i ByteArray.empty).toList==(vs.getD i ByteArray.empty).toList) q=(x.toList==y.toList)):=by show _=_;rw[hx,hy]
    have za:=lo hg hW.size;have B1:=lo hb hW.size;have rH:=hid hW;clear hx hy hW cu cv;cases hh:(x.toList==y.toList)
    ·have HE:Hid (R=false):=by show _=_;rw[JV.out];exact ba av (HS.out.trans hh)
     go_wp2_with fail
     go_quiet (fail)
     go_wp2;go_ret;exact⟨Pl.ae HE.out.symm,al rH.out _⟩
    ·have HE:=hid (aV HA.out (HS.out.trans hh));go_wp2_with fail
     go_quiet (fail)
     go_wp2;go_roundw
     case rel=>exact⟨q+1,by omega,by go_num,HE.out,al rH.out _⟩
     case measure=>simp[intOf];omega
   ·obtain rfl:q=n:=by omega
    go_wp2;go_ret;exact⟨Pl.ae (by rw[JV.out,HA.out]),hW⟩
 ·have HE:Hid (R=false):=by show _=_;rw[HR.out];unfold ee;simp[fe]
  go_wp2;go_ret;exact⟨Pl.ae HE.out.symm,br⟩
theorem yA (v:Option Addr) (d:Nat) (c:Nat) (vs:List ByteArray) (w:World) (hv:vs.length≤1048576):
  Calls Tryz.prog 64 #[.slice none 0 c,.slice v vs.length d] w fun e w'=>e=.returned (.bool (ee [] vs))∧Bel w w':=by
 obtain⟨R,hR⟩:∃ R,R=ee [] vs:=⟨_,rfl⟩
 have HR:=hid hR;rw[← hR];clear hR;go_enter Tryz.func64,Tryz.ntmps64
 by_cases fe:vs.length=0
 ·have HE:Hid (R=true):=by
   show R=true;rw[HR.out,List.length_eq_zero_iff.1 fe];rfl
  rw[fe];clear HR fe;go_wp2;go_loop [5] (fun i=>i=.int .i64 0) (fun i=>0)
  case atStart=>exact rfl
  case round=>
   obtain rfl:=hrel;go_wp2;go_ret;exact⟨Pl.ae HE.out.symm,br⟩
 ·have HE:Hid (R=false):=by show _=_;rw[HR.out];unfold ee;rw[show decide (([]:List ByteArray).length=vs.length)=false from decide_eq_false (by simp;omega)];rfl
  have hp:0<vs.length:=by omega
  go_wp2;go_ret;exact⟨Pl.ae HE.out.symm,br⟩
theorem Et (a:Option Addr) (n c b d:Nat) (us vs:List ByteArray) (w:World) (hu:us.length≤1048576) (hv:vs.length≤1048576) (hn:n=us.length) (ha:TxG w a c us) (hb:b<w.heap.size) (cv:∀ i,i<vs.length→w.cell? ⟨b,i,none⟩=some (.string (vs.getD i ByteArray.empty))):
  Calls Tryz.prog 64 #[.slice a n c,.slice (some ⟨b,0,none⟩) vs.length d] w fun e w'=>e=.returned (.bool (ee us vs))∧Bel w w':=by
 subst hn;rcases ha with⟨rfl,rfl,rfl⟩|⟨g,rfl,hg,cu⟩
 ·exact yA _ _ _ _ w hv
 ·exact yF g c b d us vs w hu hv hg hb cu cv
theorem yd (g c b d:Nat) (us vs:List ByteArray) (w:World) (hu:us.length≤1048576) (hv:vs.length≤1048576) (hg:g<w.heap.size) (hb:b<w.heap.size) (cu:∀ i,i<us.length→w.cell? ⟨g,i,none⟩=some (.string (us.getD i ByteArray.empty))) (cv:∀ i,i<vs.length→w.cell? ⟨b,i,none⟩=some (.string (vs.getD i ByteArray.empty))):
  Calls Tryz.prog 140 #[.slice (some ⟨g,0,none⟩) us.length c,.slice (some ⟨b,0,none⟩) vs.length d] w fun e w'=>e=.returned (.bool (ee us vs))∧Bel w w':=by
 obtain⟨R,hR⟩:∃ R,R=ee us vs:=⟨_,rfl⟩
 have HR:=hid hR;rw[← hR];clear hR;go_enter Tryz.func140,Tryz.ntmps140
 by_cases fe:us.length=vs.length
 ·obtain⟨n,hn⟩:∃ n,n=vs.length:=⟨_,rfl⟩
  have JV:Hid (R=aC (fun i=>(us.getD i ByteArray.empty).toList==(vs.getD i ByteArray.empty).toList) n):=by show R=_;rw[HR.out,hn];unfold ee;simp[fe]
  rw[fe]at cu hu ⊢;rw[← hn]at cu cv hu hv ⊢;clear fe hn HR;go_wp2;go_loopw [13] (fun i wr=>∃ q:Nat,q≤n∧i=.int .i64 q∧aC (fun i=>(us.getD i ByteArray.empty).toList==(vs.getD i ByteArray.empty).toList) q=true∧Bel w wr) (fun i _=>n - (intOf i).toNat)
  case atStart=>exact⟨0,nz,rfl,rfl,br⟩
  case round=>
   obtain⟨q,hq,rfl,ha,hW⟩:=hrel;have HA:=hid ha;clear ha;by_cases av:q<n
   ·have k1:=(hW.cell (p:=⟨g,q,none⟩) hg).trans (cu q av);have k2:=(hW.cell (p:=⟨b,q,none⟩) hb).trans (cv q av);obtain⟨x,hx⟩:∃ x,x=us.getD q ByteArray.empty:=⟨_,rfl⟩
    obtain⟨y,hy⟩:∃ y,y=vs.getD q ByteArray.empty:=⟨_,rfl⟩
    rw[← hx]at k1;rw[← hy]at k2;have HS:Hid ((fun i=>(us.getD i ByteArray.empty).toList==(vs.getD i ByteArray.empty).toList) q=(x.toList==y.toList)):=by show _=_;rw[hx,hy]
    have za:=lo hg hW.size;have B1:=lo hb hW.size;have rH:=hid hW;clear hx hy hW cu cv;cases hh:(x.toList==y.toList)
    ·have HE:Hid (R=false):=by show _=_;rw[JV.out];exact ba av (HS.out.trans hh)
     go_wp2_with fail
     go_quiet (fail)
     go_wp2;go_ret;exact⟨Pl.ae HE.out.symm,al rH.out _⟩
    ·have HE:=hid (aV HA.out (HS.out.trans hh));go_wp2_with fail
     go_quiet (fail)
     go_wp2;go_roundw
     case rel=>exact⟨q+1,by omega,by go_num,HE.out,al rH.out _⟩
     case measure=>simp[intOf];omega
   ·obtain rfl:q=n:=by omega
    go_wp2;go_ret;exact⟨Pl.ae (by rw[JV.out,HA.out]),hW⟩
 ·have HE:Hid (R=false):=by show _=_;rw[HR.out];unfold ee;simp[fe]
  go_wp2;go_ret;exact⟨Pl.ae HE.out.symm,br⟩
theorem xv (v:Option Addr) (d:Nat) (c:Nat) (vs:List ByteArray) (w:World) (hv:vs.length≤1048576):
  Calls Tryz.prog 140 #[.slice none 0 c,.slice v vs.length d] w fun e w'=>e=.returned (.bool (ee [] vs))∧Bel w w':=by
 obtain⟨R,hR⟩:∃ R,R=ee [] vs:=⟨_,rfl⟩
 have HR:=hid hR;rw[← hR];clear hR;go_enter Tryz.func140,Tryz.ntmps140
 by_cases fe:vs.length=0
 ·have HE:Hid (R=true):=by
   show R=true;rw[HR.out,List.length_eq_zero_iff.1 fe];rfl
  rw[fe];clear HR fe;go_wp2;go_loop [13] (fun i=>i=.int .i64 0) (fun i=>0)
  case atStart=>exact rfl
  case round=>
   obtain rfl:=hrel;go_wp2;go_ret;exact⟨Pl.ae HE.out.symm,br⟩
 ·have HE:Hid (R=false):=by show _=_;rw[HR.out];unfold ee;rw[show decide (([]:List ByteArray).length=vs.length)=false from decide_eq_false (by simp;omega)];rfl
  have hp:0<vs.length:=by omega
  go_wp2;go_ret;exact⟨Pl.ae HE.out.symm,br⟩
theorem Iy (a:Option Addr) (n c b d:Nat) (us vs:List ByteArray) (w:World) (hu:us.length≤1048576) (hv:vs.length≤1048576) (hn:n=us.length) (ha:TxG w a c us) (hb:b<w.heap.size) (cv:∀ i,i<vs.length→w.cell? ⟨b,i,none⟩=some (.string (vs.getD i ByteArray.empty))):
  Calls Tryz.prog 140 #[.slice a n c,.slice (some ⟨b,0,none⟩) vs.length d] w fun e w'=>e=.returned (.bool (ee us vs))∧Bel w w':=by
 subst hn;rcases ha with⟨rfl,rfl,rfl⟩|⟨g,rfl,hg,cu⟩
 ·exact xv _ _ _ _ w hv
 ·exact yd g c b d us vs w hu hv hg hb cu cv
theorem AH (B:Nat) (ts:List Tm) (w:World) (h:eB w B ts):
  Calls Tryz.prog 82 #[.slice (some ⟨B,0,none⟩) ts.length ts.length] w fun e w'=>e=.returned (.bool (el ts))∧Bel w w':=by
 have HS:=hid h;have hl:=h.len;clear h;by_cases jF:ts.length≤12
 case neg=>
  have HR:Hid (el ts=false):=by show _=_;simp[el,jF]
  go_enter Tryz.func82,Tryz.ntmps82
  go_wp2;go_ret;exact⟨Pl.ae HR.out.symm,br⟩
 obtain⟨R,hR⟩:∃ R,R=el ts:=⟨_,rfl⟩
 have HR:=hid hR;rw[← hR];clear hR;go_enter Tryz.func82,Tryz.ntmps82
 go_wp2;go_loopw [10] (fun i wr=>∃ k:Nat,k≤ts.length∧i=.int .i64 k∧eN ts k=true∧Bel w wr) (fun i _=>ts.length - (intOf i).toNat)
 case atStart=>exact⟨0,nz,rfl,rfl,br⟩
 case round=>
  obtain⟨k,hk,rfl,aw,hW⟩:=hrel;obtain⟨wo,rfl⟩:∃ wo:World,wo=wr:=⟨_,rfl⟩
  have HA:=hid aw;clear aw;by_cases av:k<ts.length
  ·obtain⟨t,ht⟩:∃ t,t=ts.getD k Tm.none:=⟨_,rfl⟩
   have hc:=(HS.out.later hW).at_ k av;rw[← ht]at hc;obtain⟨c0,c1,eU⟩:=hc;have HN:=hid eU;have cC:Bel wo (wo.alloc (.cells #[.string t.nm,.string t.ov] 138)):=ab br _;have HX:Hid (∀ W,Bel wo W→eB W B ts):=fun W rr=>(HS.out.later hW).later rr;have HF:Hid (lh ts k=false→R=false):=fun hf=>by rw[HR.out];exact k7 av hf
   have hp:∃ P:Bool,P=(decide (k=0)||Pl.less (ts.getD (k - 1) Tm.none).nm t.nm)∧((k=0∧P=true)∨∃ (m:Nat) (p:ByteArray),k=m+1∧wo.cell? ⟨B,m*2,none⟩=some (.string p)∧Op.bytesLess p.toList t.nm.toList=P):=by
    refine⟨_,rfl, ?_⟩;by_cases h0:k=0
    ·exact Or.inl ⟨h0,by simp[h0]⟩
    ·refine Or.inr ⟨k - 1,(ts.getD (k - 1) Tm.none).nm,by omega,((HS.out.later hW).at_ (k - 1) (by omega)).c0,by simp[h0,Pl.less]⟩
   obtain⟨P,hP,BQ⟩:=hp;have HT:=hid (pU ht P hP);clear hP ht eU;rcases BQ with⟨rfl,rfl⟩|⟨m,p,rfl,mQ,hq⟩
   ·cases hn:Pl.aq t.nm
    ·have HE:=hid (HF.out (by rw[HT.out,hn];rfl));go_wp2_with fail
     go_quiet ((go_at_call 89;exact Calls.quiet_of_same (eR _ _ HN.out.1)))
     go_wp2;go_ret;exact⟨Pl.ae HE.out.symm,al (aa hW cC) _⟩
    ·cases he:t.ov.toList.isEmpty
     ·go_wp2_with fail
      go_quiet ((go_at_call 89;exact Calls.quiet_of_same (eR _ _ HN.out.1)))
      go_wp2_with fail
      refine(jH B ts t.ov _ (HX.out _ (al cC _))).mono ?_;rintro e w4 ⟨rfl,cA⟩;have aZ:Hid (Bel wo w4):=aa (al cC _) cA;have k0:w4.cell? ⟨wo.heap.size,0,none⟩=some (.string t.nm):=(cA.cell (p:=⟨wo.heap.size,0,none⟩) (by show wo.heap.size<(wo.alloc (.cells #[.string t.nm,.string t.ov] 138)).heap.size;simp)).trans (by show (wo.alloc (.cells #[.string t.nm,.string t.ov] 138)).cell? _=_;simp);clear cA;cases hi:bB ts t.ov
      ·have HE:=hid (HF.out (by rw[HT.out,he,hi];simp));go_wp2;go_ret;exact⟨Pl.ae HE.out.symm,aa hW aZ.out⟩
      ·have HK:Hid (high ts 5 t.nm=true→eN ts (0+1)=true):=fun hh=>eh HA.out (by rw[HT.out,hn,hh,he,hi];simp);have HJ:Hid (high ts 5 t.nm=false→R=false):=fun hh=>HF.out (by rw[HT.out,hh];simp);clear hn  hi he;go_wp2_with fail
       refine(jR B ts t.nm _ (HX.out _ aZ.out)).mono ?_;rintro e w5 ⟨⟨r,rfl,r0,r5,hr⟩,gI⟩;have vM:=hid (aa (aa hW aZ.out) gI);have fg:=hid hr;clear gI hr aZ;by_cases hr4:4<r
       ·have HE:=hid (HJ.out (by have:=fg.out;rw[decide_eq_true hr4]at this;simpa using this.symm));go_wp2;go_ret;exact⟨Pl.ae HE.out.symm,vM.out⟩
       ·have HE:=hid (HK.out (by have:=fg.out;rw[decide_eq_false hr4]at this;simpa using this.symm));go_wp2;go_roundw
        case rel=>first|exact⟨0+1,by omega,by go_num,HE.out,vM.out⟩|((repeat apply Exists.intro);exact⟨⟨0+1,by omega,by go_num,HE.out,vM.out⟩,rfl⟩)
        case measure=>simp[intOf];omega
     ·have HK:Hid (high ts 5 t.nm=true→eN ts (0+1)=true):=fun hh=>eh HA.out (by rw[HT.out,hn,hh,he];simp);have HJ:Hid (high ts 5 t.nm=false→R=false):=fun hh=>HF.out (by rw[HT.out,hh];simp);go_wp2_with fail
      go_quiet ((go_at_call 89;exact Calls.quiet_of_same (eR _ _ HN.out.1)))
      have aZ:=hid cC;go_wp2_with fail
      clear hn  he;refine(jR B ts t.nm _ (HX.out _ (al cC _))).mono ?_;rintro e w5 ⟨⟨r,rfl,r0,r5,hr⟩,gI⟩;have vM:Hid (Bel w w5):=aa (aa hW (al aZ.out _)) gI;have fg:=hid hr;clear gI hr aZ;by_cases hr4:4<r
      ·have HE:=hid (HJ.out (by have:=fg.out;rw[decide_eq_true hr4]at this;simpa using this.symm));go_wp2;go_ret;exact⟨Pl.ae HE.out.symm,vM.out⟩
      ·have HE:=hid (HK.out (by have:=fg.out;rw[decide_eq_false hr4]at this;simpa using this.symm));go_wp2;go_roundw
       case rel=>first|exact⟨0+1,by omega,by go_num,HE.out,vM.out⟩|((repeat apply Exists.intro);exact⟨⟨0+1,by omega,by go_num,HE.out,vM.out⟩,rfl⟩)
       case measure=>simp[intOf];omega
   ·have GN:=lo HS.out.lt hW.size;have EP:decide ((m:Int)+1<(ts.length:Int))=true:=by simp;omega
    cases hn:Pl.aq t.nm
    ·have HE:=hid (HF.out (by rw[HT.out,hn];rfl));go_wp2_with fail
     go_quiet ((go_at_call 89;exact Calls.quiet_of_same (eR _ _ HN.out.1)))
     go_wp2;go_ret;exact⟨Pl.ae HE.out.symm,al (aa hW cC) _⟩
    ·cases P
     ·have HE:=hid (HF.out (by rw[HT.out];simp));go_wp2_with fail
      go_quiet ((go_at_call 89;exact Calls.quiet_of_same (eR _ _ HN.out.1)))
      go_wp2;go_ret;exact⟨Pl.ae HE.out.symm,al (aa hW cC) _⟩
     ·cases he:t.ov.toList.isEmpty
      ·go_wp2_with fail
       go_quiet ((go_at_call 89;exact Calls.quiet_of_same (eR _ _ HN.out.1)))
       go_wp2_with fail
       refine(jH B ts t.ov _ (HX.out _ (al cC _))).mono ?_;rintro e w4 ⟨rfl,cA⟩;have aZ:Hid (Bel wo w4):=aa (al cC _) cA;have k0:w4.cell? ⟨wo.heap.size,0,none⟩=some (.string t.nm):=(cA.cell (p:=⟨wo.heap.size,0,none⟩) (by show wo.heap.size<(wo.alloc (.cells #[.string t.nm,.string t.ov] 138)).heap.size;simp)).trans (by show (wo.alloc (.cells #[.string t.nm,.string t.ov] 138)).cell? _=_;simp);clear cA;cases hi:bB ts t.ov
       ·have HE:=hid (HF.out (by rw[HT.out,he,hi];simp));go_wp2;go_ret;exact⟨Pl.ae HE.out.symm,aa hW aZ.out⟩
       ·have HK:Hid (high ts 5 t.nm=true→eN ts ((m+1)+1)=true):=fun hh=>eh HA.out (by rw[HT.out,hn,hh,he,hi];simp);have HJ:Hid (high ts 5 t.nm=false→R=false):=fun hh=>HF.out (by rw[HT.out,hh];simp);clear hn mQ hq hi he;go_wp2_with fail
        refine(jR B ts t.nm _ (HX.out _ aZ.out)).mono ?_;rintro e w5 ⟨⟨r,rfl,r0,r5,hr⟩,gI⟩;have vM:=hid (aa (aa hW aZ.out) gI);have fg:=hid hr;clear gI hr aZ;by_cases hr4:4<r
        ·have HE:=hid (HJ.out (by have:=fg.out;rw[decide_eq_true hr4]at this;simpa using this.symm));go_wp2;go_ret;exact⟨Pl.ae HE.out.symm,vM.out⟩
        ·have HE:=hid (HK.out (by have:=fg.out;rw[decide_eq_false hr4]at this;simpa using this.symm));go_wp2;go_roundw
         case rel=>first|exact⟨(m+1)+1,by omega,by go_num,HE.out,vM.out⟩|((repeat apply Exists.intro);exact⟨⟨(m+1)+1,by omega,by go_num,HE.out,vM.out⟩,rfl⟩)
         case measure=>simp[intOf];omega
      ·have HK:Hid (high ts 5 t.nm=true→eN ts ((m+1)+1)=true):=fun hh=>eh HA.out (by rw[HT.out,hn,hh,he];simp);have HJ:Hid (high ts 5 t.nm=false→R=false):=fun hh=>HF.out (by rw[HT.out,hh];simp);go_wp2_with fail
       go_quiet ((go_at_call 89;exact Calls.quiet_of_same (eR _ _ HN.out.1)))
       have aZ:=hid cC;go_wp2_with fail
       clear hn mQ hq he;refine(jR B ts t.nm _ (HX.out _ (al cC _))).mono ?_;rintro e w5 ⟨⟨r,rfl,r0,r5,hr⟩,gI⟩;have vM:Hid (Bel w w5):=aa (aa hW (al aZ.out _)) gI;have fg:=hid hr;clear gI hr aZ;by_cases hr4:4<r
       ·have HE:=hid (HJ.out (by have:=fg.out;rw[decide_eq_true hr4]at this;simpa using this.symm));go_wp2;go_ret;exact⟨Pl.ae HE.out.symm,vM.out⟩
       ·have HE:=hid (HK.out (by have:=fg.out;rw[decide_eq_false hr4]at this;simpa using this.symm));go_wp2;go_roundw
        case rel=>first|exact⟨(m+1)+1,by omega,by go_num,HE.out,vM.out⟩|((repeat apply Exists.intro);exact⟨⟨(m+1)+1,by omega,by go_num,HE.out,vM.out⟩,rfl⟩)
        case measure=>simp[intOf];omega
  ·have HE:Hid (R=true):=by
    show R=true;obtain rfl:k=ts.length:=by omega
    rw[HR.out,el,HA.out];simp[jF]
   go_wp2;go_ret;exact⟨Pl.ae HE.out.symm,hW⟩
structure lq {α:Type} (c:α→α→Int):Prop where
 z:∀ x y,c x y=0↔x=y
 t:∀ x y u,c x y<0→c y u<0→c x u<0
 f:∀ x y,0<c x y→c y x<0
theorem sC:∀ x y u:List UInt8,Op.bytesLess x y=true→Op.bytesLess y u=true→Op.bytesLess x u=true
 |[],[],_,h,_=>by simp[Op.bytesLess]at h
 |_::_,[],_,h,_=>by simp[Op.bytesLess]at h
 |[],_::_,[],_,h=>by simp[Op.bytesLess]at h
 |[],_::_,_::_,_,_=>rfl
 |_::_,_::_,[],_,h=>by simp[Op.bytesLess]at h
 |a::x,b::y,c::u,h1,h2=>by
  simp only[Op.bytesLess,Bool.or_eq_true,Bool.and_eq_true,decide_eq_true_eq,beq_iff_eq]at h1 h2 ⊢;rcases h1 with h1|⟨h1,Il⟩<;>rcases h2 with h2|⟨h2,h2'⟩
  ·exact Or.inl (UInt8.lt_trans h1 h2)
  ·subst h2;exact Or.inl h1
  ·subst h1;exact Or.inl h2
  ·subst h1 h2;exact Or.inr ⟨rfl,sC x y u Il h2'⟩
theorem rT:∀ x y:List UInt8,Op.bytesLess x y=false→x≠y→Op.bytesLess y x=true
 |[],[],_,h=>absurd rfl h
 |_::_,[],_,_=>rfl
 |[],_::_,h,_=>by simp[Op.bytesLess]at h
 |a::x,b::y,h,fe=>by
  simp only[Op.bytesLess,Bool.or_eq_false_iff,Bool.and_eq_false_iff,decide_eq_false_iff_not,beq_eq_false_iff_ne]at h;simp only[Op.bytesLess,Bool.or_eq_true,Bool.and_eq_true,decide_eq_true_eq,beq_iff_eq];by_cases e:a=b
  ·subst e;refine Or.inr ⟨rfl,rT x y ?_ ?_⟩
   ·rcases h.2 with h'|h'
    ·exact absurd rfl h'
    ·exact h'
   ·intro e;subst e;exact fe rfl
  ·refine Or.inl ?_;have h1:=h.1;rcases Nat.lt_trichotomy a.toNat b.toNat with q|q|q
   ·exact absurd (UInt8.lt_iff_toNat_lt.2 q) h1
   ·exact absurd (UInt8.toNat_inj.1 q) e
   ·exact UInt8.lt_iff_toNat_lt.2 q
def kc (a b:List UInt8):Int:=if Op.bytesLess a b then -1 else if a==b then 0 else 1
theorem oE (a b:List UInt8):kc a b<0↔Op.bytesLess a b=true:=by
 unfold kc;split
 ·simp_all
 ·split<;>simp_all
theorem fa:lq kc where
 z x y:=by
  unfold kc;constructor
  ·intro h;split at h
   ·cases h
   ·split at h
    ·rename_i e;simpa using e
    ·cases h
  ·intro e;subst e;rw[jc];simp
 t x y u h1 h2:=(oE _ _).2 (sC x y u ((oE _ _).1 h1) ((oE _ _).1 h2))
 f x y h:=by
  refine(oE _ _).2 (rT x y ?_ ?_)
  ·cases e:Op.bytesLess x y
   ·rfl
   ·have:=(oE x y).2 e;omega
  ·intro e;subst e;unfold kc at h;rw[jc]at h;simp at h
def lex {α β:Type} (c:α→α→Int) (d:β→β→Int) (x y:α×β):Int:=if c x.1 y.1=0 then d x.2 y.2 else c x.1 y.1
theorem ie {α β:Type} {c:α→α→Int} {d:β→β→Int} (hc:lq c) (hd:lq d):lq (lex c d) where
 z x y:=by
  obtain⟨a,b⟩:=x;obtain⟨a',b'⟩:=y;unfold lex;simp only[Prod.mk.injEq];split
  ·rename_i h
   have:=(hc.z _ _).1 h;rw[hd.z];exact⟨fun h=>⟨this,h⟩,fun h=>h.2⟩
  ·rename_i h
   exact⟨fun e=>absurd e h,fun e=>absurd ((hc.z _ _).2 e.1) h⟩
 t x y u h1 h2:=by
  unfold lex at h1 h2 ⊢;split at h1
  ·rename_i e1
   have e1':=(hc.z _ _).1 e1;split at h2
   ·rename_i e2
    have e2':=(hc.z _ _).1 e2;rw[if_pos ((hc.z _ _).2 (e1'.trans e2'))];exact hd.t _ _ _ h1 h2
   ·rename_i e2
    rw[e1',if_neg e2];exact h2
  ·rename_i e1
   split at h2
   ·rename_i e2
    have e2':=(hc.z _ _).1 e2;rw[← e2',if_neg e1];exact h1
   ·have:=hc.t _ _ _ h1 h2;rw[if_neg (by omega)];exact this
 f x y h:=by
  unfold lex at h ⊢;split at h
  ·rename_i e
   have e':=(hc.z _ _).1 e;rw[if_pos ((hc.z _ _).2 e'.symm)];exact hd.f _ _ h
  ·have:=hc.f _ _ h;rw[if_neg (by omega)];exact this
theorem gM (a b c d:ByteArray):two a b c d=lex kc kc (a.toList,b.toList) (c.toList,d.toList):=rfl
theorem ub {α:Type} {c:α→α→Int} (hc:lq c) {g:Nat→α} {n:Nat} (h:∀ i,i<n - 1→c (g i) (g (i+1))<0):∀ i j,i<j→j<n→c (g i) (g j)<0:=by
 intro i j hij;induction j with
 |zero=>omega
 |succ j ih=>
  intro hj;by_cases e:i=j
  ·subst e;exact h i (by omega)
  ·exact hc.t _ _ _ (ih (by omega) (by omega)) (h j (by omega))
theorem AU {α:Type} {c:α→α→Int} (hc:lq c) {g:Nat→α} {n:Nat} (h:∀ i,i<n - 1→c (g i) (g (i+1))<0) {t:α} {p:Nat} (hp:0≤c (g p) t):∀ i,p≤i→i<n→0≤c (g i) t:=by
 intro i hi hn;by_cases e:p=i
 ·subst e;exact hp
 ·have h1:=ub hc h p i (by omega) hn;rcases Int.lt_trichotomy (c (g p) t) 0 with q|q|q
  ·omega
  ·have:=(hc.z _ _).1 q;rw[this]at h1;rcases Int.lt_trichotomy (c (g i) t) 0 with r|r|r
   ·have:=hc.t _ _ _ h1 r;have:=(hc.z t t).2 rfl;omega
   ·omega
   ·omega
  ·have h2:=hc.f _ _ q;have h3:=hc.t _ _ _ h2 h1;rcases Int.lt_trichotomy (c (g i) t) 0 with r|r|r
   ·have:=hc.t _ _ _ h3 r;have:=(hc.z t t).2 rfl;omega
   ·omega
   ·omega
theorem wE {α:Type} {c:α→α→Int} (hc:lq c) {g:Nat→α} {n:Nat} (h:∀ i,i<n - 1→c (g i) (g (i+1))<0) {t:α} {p i:Nat} (hp:∀ j,j<p→c (g j) t<0) (Ml:p<n→0≤c (g p) t) (hi:i<n) (he:g i=t):p=i:=by
 have hz:c (g i) t=0:=(hc.z _ _).2 he;rcases Nat.lt_trichotomy p i with q|q|q
 ·have h1:=ub hc h p i q hi;rw[he]at h1;have:=Ml (by omega);omega
 ·exact q
 ·have:=hp i q;omega
def dJ (l:List Ob) (kd nm:ByteArray):Nat:=l.findIdx fun x=> !decide (two x.kind x.name kd nm<0)
theorem p7 (l:List Ob):jB l=true↔∀ i,i<l.length - 1→lex kc kc ((fun i=>((l.getD i Ob.none).kind.toList,(l.getD i Ob.none).name.toList)) i) ((fun i=>((l.getD i Ob.none).kind.toList,(l.getD i Ob.none).name.toList)) (i+1))<0:=by
 unfold jB;rw[gG];refine forall_congr' fun i=> ?_;simp only[decide_eq_true_eq];exact Iff.rfl
theorem oP (l:List Ob) (kd nm:ByteArray):dJ l kd nm≤l.length:=List.findIdx_le_length
theorem ow (l:List Ob) (kd nm:ByteArray):∀ i,i<dJ l kd nm→two (l.getD i Ob.none).kind (l.getD i Ob.none).name kd nm<0:=by
 intro i hi;have hl:=lo hi (oP l kd nm);have:=List.not_of_lt_findIdx hi;have e:l.getD i Ob.none=l[i]:=by simp[hl]
 rw[e];simpa using this
theorem pb (l:List Ob) (kd nm:ByteArray) (h:dJ l kd nm<l.length):0≤two (l.getD (dJ l kd nm) Ob.none).kind (l.getD (dJ l kd nm) Ob.none).name kd nm:=by
 have:=List.findIdx_getElem (w:=h);have e:l.getD (dJ l kd nm) Ob.none=l[dJ l kd nm]:=by simp[h]
 rw[e];simp only[Bool.not_eq_true',decide_eq_false_iff_not,Int.not_lt]at this;exact this
theorem uH {l:List Ob} (h:jB l=true) (kd nm:ByteArray):∀ i,dJ l kd nm≤i→i<l.length→0≤two (l.getD i Ob.none).kind (l.getD i Ob.none).name kd nm:=by
 intro i hi hl;have:=AU (ie fa fa) ((p7 l).1 h) (t:=(kd.toList,nm.toList)) (p:=dJ l kd nm) (by have:=pb l kd nm (by omega);rw[gM]at this;exact this) i hi hl;rw[gM];exact this
theorem qg (kd nm:ByteArray) (x:Ob):lT kd nm x=true↔(x.kind.toList,x.name.toList)=(kd.toList,nm.toList):=by
 unfold lT;simp[Bool.and_eq_true]
theorem zN (kd nm:ByteArray) (x:Ob):two x.kind x.name kd nm=0↔lT kd nm x=true:=by
 rw[qg,gM];exact(ie fa fa).z _ _
theorem Ct {l:List Ob} (h:jB l=true) (kd nm:ByteArray):(decide (dJ l kd nm<l.length)&&decide (two (l.getD (dJ l kd nm) Ob.none).kind (l.getD (dJ l kd nm) Ob.none).name kd nm=0))=decide (kU l kd nm<l.length):=by
 rw[Bool.eq_iff_iff];simp only[Bool.and_eq_true,decide_eq_true_eq];constructor
 ·rintro⟨h1,h2⟩;have h3:=(zN kd nm _).1 h2;refine Nat.lt_of_le_of_lt (Nat.le_of_not_lt fun hh=> ?_) h1;have:=List.not_of_lt_findIdx hh;have e:l.getD (dJ l kd nm) Ob.none=l[dJ l kd nm]:=by simp[h1]
  rw[e]at h3;rw[this]at h3;cases h3
 ·intro h1;have h3:=List.findIdx_getElem (w:=h1);have e:l.getD (kU l kd nm) Ob.none=l[kU l kd nm]:=by simp[h1]
  have hk:=(qg kd nm _).1 h3;have hp:dJ l kd nm=kU l kd nm:=wE (ie fa fa) ((p7 l).1 h) (t:=(kd.toList,nm.toList)) (fun j hj=>by have:=ow l kd nm j hj;rw[gM]at this;exact this) (fun hh=>by have:=pb l kd nm hh;rw[gM]at this;exact this) h1 (by show _=_;rw[e];exact hk);rw[hp];refine⟨h1,(zN kd nm _).2 ?_⟩;rw[e];exact h3
def dG (l:List Lg) (tm rs:ByteArray):Nat:=l.findIdx fun x=> !decide (two x.team x.res tm rs<0)
theorem mw (l:List Lg):gA l=true↔∀ i,i<l.length - 1→lex kc kc ((fun i=>((l.getD i Lg.none).team.toList,(l.getD i Lg.none).res.toList)) i) ((fun i=>((l.getD i Lg.none).team.toList,(l.getD i Lg.none).res.toList)) (i+1))<0:=by
 unfold gA;rw[gG];refine forall_congr' fun i=> ?_;simp only[decide_eq_true_eq];exact Iff.rfl
theorem oM (l:List Lg) (tm rs:ByteArray):dG l tm rs≤l.length:=List.findIdx_le_length
theorem oe (l:List Lg) (tm rs:ByteArray):∀ i,i<dG l tm rs→two (l.getD i Lg.none).team (l.getD i Lg.none).res tm rs<0:=by
 intro i hi;have hl:=lo hi (oM l tm rs);have:=List.not_of_lt_findIdx hi;have e:l.getD i Lg.none=l[i]:=by simp[hl]
 rw[e];simpa using this
theorem pj (l:List Lg) (tm rs:ByteArray) (h:dG l tm rs<l.length):0≤two (l.getD (dG l tm rs) Lg.none).team (l.getD (dG l tm rs) Lg.none).res tm rs:=by
 have:=List.findIdx_getElem (w:=h);have e:l.getD (dG l tm rs) Lg.none=l[dG l tm rs]:=by simp[h]
 rw[e];simp only[Bool.not_eq_true',decide_eq_false_iff_not,Int.not_lt]at this;exact this
theorem tL {l:List Lg} (h:gA l=true) (tm rs:ByteArray):∀ i,dG l tm rs≤i→i<l.length→0≤two (l.getD i Lg.none).team (l.getD i Lg.none).res tm rs:=by
 intro i hi hl;have:=AU (ie fa fa) ((mw l).1 h) (t:=(tm.toList,rs.toList)) (p:=dG l tm rs) (by have:=pj l tm rs (by omega);rw[gM]at this;exact this) i hi hl;rw[gM];exact this
theorem mJ (tm rs:ByteArray) (x:Lg):ld tm rs x=true↔(x.team.toList,x.res.toList)=(tm.toList,rs.toList):=by
 unfold ld;simp[Bool.and_eq_true]
theorem AJ (tm rs:ByteArray) (x:Lg):two x.team x.res tm rs=0↔ld tm rs x=true:=by
 rw[mJ,gM];exact(ie fa fa).z _ _
theorem Cx {l:List Lg} (h:gA l=true) (tm rs:ByteArray):(decide (dG l tm rs<l.length)&&decide (two (l.getD (dG l tm rs) Lg.none).team (l.getD (dG l tm rs) Lg.none).res tm rs=0))=decide (ir l tm rs<l.length):=by
 rw[Bool.eq_iff_iff];simp only[Bool.and_eq_true,decide_eq_true_eq];constructor
 ·rintro⟨h1,h2⟩;have h3:=(AJ tm rs _).1 h2;refine Nat.lt_of_le_of_lt (Nat.le_of_not_lt fun hh=> ?_) h1;have:=List.not_of_lt_findIdx hh;have e:l.getD (dG l tm rs) Lg.none=l[dG l tm rs]:=by simp[h1]
  rw[e]at h3;rw[this]at h3;cases h3
 ·intro h1;have h3:=List.findIdx_getElem (w:=h1);have e:l.getD (ir l tm rs) Lg.none=l[ir l tm rs]:=by simp[h1]
  have hk:=(mJ tm rs _).1 h3;have hp:dG l tm rs=ir l tm rs:=wE (ie fa fa) ((mw l).1 h) (t:=(tm.toList,rs.toList)) (fun j hj=>by have:=oe l tm rs j hj;rw[gM]at this;exact this) (fun hh=>by have:=pj l tm rs hh;rw[gM]at this;exact this) h1 (by show _=_;rw[e];exact hk);rw[hp];refine⟨h1,(AJ tm rs _).2 ?_⟩;rw[e];exact h3
def fZ (L:Lw):Bool:=aU L.shapes L.mends&&el L.teams
theorem Fa (L:Lw) (a0 a1 a2:Nat) (w:World) (h:fT w a0 a1 a2 L):
  Calls Tryz.prog 24 #[.agg #[.slice (some ⟨a0,0,none⟩) L.shapes.length L.shapes.length,.slice (some ⟨a1,0,none⟩) L.mends.length L.mends.length,.slice (some ⟨a2,0,none⟩) L.teams.length L.teams.length]] w fun e w'=>e=.returned (.bool (fZ L))∧Bel w w':=by
 have HA:=hid h;clear h;obtain⟨wa,ch⟩:∃ wa,wa=w.alloc (.cells #[.slice (some ⟨a0,0,none⟩) L.shapes.length L.shapes.length,.slice (some ⟨a1,0,none⟩) L.mends.length L.mends.length,.slice (some ⟨a2,0,none⟩) L.teams.length L.teams.length] 40):=⟨_,rfl⟩
 have cz:Hid (Bel w wa):=by show Below _ _ _;rw[ch];exact ab br _
 have eZ:Hid (bC wa w.heap.size (.slice (some ⟨a0,0,none⟩) L.shapes.length L.shapes.length) (.slice (some ⟨a1,0,none⟩) L.mends.length L.mends.length) (.slice (some ⟨a2,0,none⟩) L.teams.length L.teams.length)):=by show bC _ _ _ _ _;rw[ch];exact bC.bp w _ _ _ _ _ rfl
 obtain⟨yz,y0,y1,y2⟩:=eZ.out;go_enter Tryz.func24,Tryz.ntmps24
 go_upto_region 1 with fail
 rw[← ch];clear ch;go_wp2_with fail
 refine(Ai a0 a1 L.shapes L.mends wa (HA.out.later cz.out).s (HA.out.later cz.out).m).mono ?_;rintro e wb ⟨rfl,hb⟩;have gv:=hid (aa cz.out hb);have ik:=hid (eZ.out.later hb);clear hb yz y0 y1 y2 eZ cz;obtain⟨yz,y0,y1,y2⟩:=ik.out;obtain⟨mb,qE⟩:∃ mb,mb=aU L.shapes L.mends:=⟨_,rfl⟩
 have HM:=hid qE;rw[← qE];clear qE;cases mb
 ·have HF:Hid (fZ L=false):=by show _=_;unfold fZ;rw[← HM.out];rfl
  go_wp2;go_ret;exact⟨by rw[HF.out];rfl,gv.out⟩
 go_wp2_with fail
 refine(A2 a2 L.teams wb (HA.out.later gv.out).t).mono ?_;rintro e wc ⟨rfl,hb⟩;have jE:=hid (aa gv.out hb);clear hb yz y0 y1 y2 ik;have HF:Hid (fZ L=el L.teams):=by show _=_;unfold fZ;rw[← HM.out];rfl
 obtain⟨tb,zm⟩:∃ tb,tb=el L.teams:=⟨_,rfl⟩
 rw[← zm]at HF;rw[← zm];clear zm;go_wp2;go_ret;exact⟨by rw[HF.out];rfl,jE.out⟩
theorem FV (L:Lw) (a0 a1 a2:Nat) (w:World) (h:fT w a0 a1 a2 L):
  Calls Tryz.prog 36 #[.agg #[.slice (some ⟨a0,0,none⟩) L.shapes.length L.shapes.length,.slice (some ⟨a1,0,none⟩) L.mends.length L.mends.length,.slice (some ⟨a2,0,none⟩) L.teams.length L.teams.length]] w fun e w'=>e=.returned (.bool (fZ L))∧Bel w w':=by
 have HA:=hid h;clear h;obtain⟨wa,ch⟩:∃ wa,wa=w.alloc (.cells #[.slice (some ⟨a0,0,none⟩) L.shapes.length L.shapes.length,.slice (some ⟨a1,0,none⟩) L.mends.length L.mends.length,.slice (some ⟨a2,0,none⟩) L.teams.length L.teams.length] 40):=⟨_,rfl⟩
 have cz:Hid (Bel w wa):=by show Below _ _ _;rw[ch];exact ab br _
 have eZ:Hid (bC wa w.heap.size (.slice (some ⟨a0,0,none⟩) L.shapes.length L.shapes.length) (.slice (some ⟨a1,0,none⟩) L.mends.length L.mends.length) (.slice (some ⟨a2,0,none⟩) L.teams.length L.teams.length)):=by show bC _ _ _ _ _;rw[ch];exact bC.bp w _ _ _ _ _ rfl
 obtain⟨yz,y0,y1,y2⟩:=eZ.out;go_enter Tryz.func36,Tryz.ntmps36
 go_upto_region 1 with fail
 rw[← ch];clear ch;go_wp2_with fail
 refine(zP a0 a1 L.shapes L.mends wa (HA.out.later cz.out).s (HA.out.later cz.out).m).mono ?_;rintro e wb ⟨rfl,hb⟩;have gv:=hid (aa cz.out hb);have ik:=hid (eZ.out.later hb);clear hb yz y0 y1 y2 eZ cz;obtain⟨yz,y0,y1,y2⟩:=ik.out;obtain⟨mb,qE⟩:∃ mb,mb=aU L.shapes L.mends:=⟨_,rfl⟩
 have HM:=hid qE;rw[← qE];clear qE;cases mb
 ·have HF:Hid (fZ L=false):=by show _=_;unfold fZ;rw[← HM.out];rfl
  go_wp2;go_ret;exact⟨by rw[HF.out];rfl,gv.out⟩
 go_wp2_with fail
 refine(AH a2 L.teams wb (HA.out.later gv.out).t).mono ?_;rintro e wc ⟨rfl,hb⟩;have jE:=hid (aa gv.out hb);clear hb yz y0 y1 y2 ik;have HF:Hid (fZ L=el L.teams):=by show _=_;unfold fZ;rw[← HM.out];rfl
 obtain⟨tb,zm⟩:∃ tb,tb=el L.teams:=⟨_,rfl⟩
 rw[← zm]at HF;rw[← zm];clear zm;go_wp2;go_ret;exact⟨by rw[HF.out];rfl,jE.out⟩
theorem mC (B:Nat) (l:List Ob) (kd nm:ByteArray) (w:World) (h:fX w B l) (ha:jB l=true):
  Calls Tryz.prog 143 #[.slice (some ⟨B,0,none⟩) l.length l.length,.string kd,.string nm] w fun e w'=>e=.returned (.tuple #[.int .i64 (dJ l kd nm:Nat),.bool (decide (kU l kd nm<l.length))])∧Bel w w':=by
 have hl:=h.len;have hb:=Iu B l kd nm (.string ⟨#[]⟩) (.slice none 0 0) (.bool false) (.slice none 0 0) (.int .i64 0) (dJ l kd nm) w h (oP l kd nm) (ow l kd nm) (uH ha kd nm);rw[Ct ha kd nm]at hb;have HB:=hid hb;clear hb h ha;obtain⟨p,hp⟩:∃ p,p=dJ l kd nm:=⟨_,rfl⟩
 obtain⟨r,hr⟩:∃ r,r=decide (kU l kd nm<l.length):=⟨_,rfl⟩
 rw[← hp,← hr]at HB ⊢;clear hp hr;go_enter Tryz.func143,Tryz.ntmps143
 go_wp2_with fail
 refine HB.out.mono ?_;rintro e w' ⟨rfl,hb⟩;go_wp2;go_ret2;exact⟨rfl,hb⟩
theorem mG (B:Nat) (l:List Lg) (tm rs:ByteArray) (w:World) (h:gV w B l) (ha:gA l=true):
  Calls Tryz.prog 96 #[.slice (some ⟨B,0,none⟩) l.length l.length,.string tm,.string rs] w fun e w'=>e=.returned (.tuple #[.int .i64 (dG l tm rs:Nat),.bool (decide (ir l tm rs<l.length))])∧Bel w w':=by
 have hl:=h.len;have hb:=IC B l tm rs (.int .i64 0) (.int .i64 0) (dG l tm rs) w h (oM l tm rs) (oe l tm rs) (tL ha tm rs);rw[Cx ha tm rs]at hb;have HB:=hid hb;clear hb h ha;obtain⟨p,hp⟩:∃ p,p=dG l tm rs:=⟨_,rfl⟩
 obtain⟨r,hr⟩:∃ r,r=decide (ir l tm rs<l.length):=⟨_,rfl⟩
 rw[← hp,← hr]at HB ⊢;clear hp hr;go_enter Tryz.func96,Tryz.ntmps96
 go_wp2_with fail
 refine HB.out.mono ?_;rintro e w' ⟨rfl,hb⟩;go_wp2;go_ret2;exact⟨rfl,hb⟩
def gP (K:Bk):Bool:=within K.now 0 1000000&&within K.tick 0 1000000&&within K.given 0 K.now
def l8 (given:Int) (g:Gr):Bool:=within g.number 1 given&&Pl.aq g.too&&(g.by_.toList.isEmpty||Pl.aq g.by_)&&eO g.rule
def bZ (K:Bk) (i:Nat):Bool:=l8 K.given (K.grants.getD i Gr.none)
def eH (K:Bk):Bool:=decide (K.grants.length≤24)&&oi K.grants&&aC (bZ K) K.grants.length
def lQ (L:Lw) (x:Lg):Bool:=bB L.teams x.team&&Pl.aq x.res&&within x.most 0 1000000&&within x.free 0 x.most
def cN (L:Lw) (K:Bk) (i:Nat):Bool:=lQ L (K.ledgers.getD i Lg.none)
def dM (L:Lw) (K:Bk):Bool:=decide (K.ledgers.length≤10)&&gA K.ledgers&&aC (cN L K) K.ledgers.length
def lZ (K:Bk) (x:Ps):Bool:=decide (ir K.ledgers x.team x.res<K.ledgers.length)&&Pl.aq x.door&&within x.amount 1 1000000&&within x.til K.tick (K.tick+10)
def cL (K:Bk) (i:Nat):Bool:=lZ K (K.purses.getD i Ps.none)
def eG (K:Bk):Bool:=decide (K.purses.length≤24)&&m8 K.purses&&aC (cL K) K.purses.length
def wm (L:Lw) (K:Bk) (x:Lg):Int:=wrap64 (wrap64 (used L K x.team x.res+wL K.purses x.team x.res)+x.free)
def fD (L:Lw) (K:Bk) (i:Nat):Bool:=decide (wm L K (K.ledgers.getD i Lg.none)=(K.ledgers.getD i Lg.none).most)
def iC (L:Lw) (K:Bk):Bool:=aC (fD L K) K.ledgers.length
def oc (K:Bk) (f:Fld) (v:ByteArray):Bool:= !(decide (f.kind=4)&& !v.toList.isEmpty)||decide (kU K.objects f.to v<K.objects.length)
def cG (K:Bk) (fs:List Fld) (vs:List ByteArray) (i:Nat):Bool:=oc K (fs.getD i Fld.none) (vs.getD i ByteArray.empty)
def fieldsOf (L:Lw) (o:Ob):List Fld:=(L.shapes.getD (aB L.shapes o.kind) Shp.none).fields
def gS (L:Lw) (K:Bk) (o:Ob):Bool:=aK L.shapes o.kind&&decide (dk (fieldsOf L o) o=0)&&bB L.teams o.team&&within o.version 1 K.now&&ee (bM L.shapes L.mends o) o.values&&aC (cG K (fieldsOf L o) o.values) (fieldsOf L o).length
def cM (L:Lw) (K:Bk) (i:Nat):Bool:=gS L K (K.objects.getD i Ob.none)
def ef (L:Lw) (K:Bk):Bool:=decide (K.objects.length≤40)&&jB K.objects&&aC (cM L K) K.objects.length
def gE (L:Lw) (K:Bk):Bool:=fZ L&&gP K&&ef L K&&eH K&&dM L K&&eG K&&iC L K
structure aM (W:World) (p:Nat) (cs:Array Value):Prop where
 lt:p<W.heap.size
 at_:∀ j,W.cell? ⟨p,j,none⟩=cs[j]?
theorem aM.later {W W':World} {p:Nat} {cs:Array Value} (h:aM W p cs) (hb:Bel W W'):aM W' p cs:=
 ⟨lo h.lt hb.size,fun j=>(hb.cell (p:=⟨p,j,none⟩) h.lt).trans (h.at_ j)⟩
theorem aM.bp (W:World) (p:Nat) (cs:Array Value) (t:TypeId) (hp:p=W.heap.size):aM (W.alloc (.cells cs t)) p cs:=by
 subst hp;exact⟨by simp,fun j=>World.cell?_alloc_at _ _ _ _ rfl⟩
theorem aM.cy {W:World} {p:Nat} {cs:Array Value} (h:aM W p cs) (o:Obj):aM (W.alloc o) p cs:=h.later (ab br o)
end Go.Proofs.YtbiokpmdghmgcaaGreat
