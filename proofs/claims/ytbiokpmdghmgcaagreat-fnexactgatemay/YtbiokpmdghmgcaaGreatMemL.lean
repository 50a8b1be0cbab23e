import Derived.Deep.DeepCutAuto
import Derived.Test.YtbiokpmdghmgcaaGreatMemT
import Derived.Test.YtbiokpmdghmgcaaGreatMemM
import Derived.Test.YtbiokpmdghmgcaaGreatWalkP
import Derived.Test.YtbiokpmdghmgcaaGreatPlainC
namespace Go.Proofs.YtbiokpmdghmgcaaGreat
set_option maxHeartbeats 40000000
open Go.RowKit Go.Deep
theorem Tryz.Dy:(Tryz.prog.info? 138).map (fun i=>(i.zero,i.size,i.bytes))=some (some (.agg #[.string ByteArray.empty,.string ByteArray.empty]),2,32):=by kernel_rfl
theorem sx (n:Nat) (h:n≤1048576):∃ cs:Array Value,cs.size=n*2∧∀ W:World,
  (Instr.makeSlice 38 (.int .i64 (n:Int)) (.int .i64 (n:Int))).run Tryz.prog W=.ok (.slice (some ⟨W.heap.size,0,none⟩) n n) (W.alloc (.cells cs 138)):=by
 obtain⟨i,hi,lP⟩:=Option.map_eq_some_iff.1 Tryz.Dy;simp only[Prod.mk.injEq]at lP;obtain⟨hz,hs,hb⟩:=lP;refine⟨madeCells (Value.agg #[.string ByteArray.empty,.string ByteArray.empty]).cells (n*2),size_madeCells _ _,fun W=> ?_⟩;have hr:=run_make (P:=Tryz.prog) W 38 138 i _ Tryz.underlying38 hi hz .i64 .i64 n n (by omega) (Int.le_refl _) (by rw[hb];omega) (by omega);simp only[Int.toNat_natCast,hs]at hr;exact hr
theorem FO (m:Tm) (w:World):
  Calls Tryz.prog 76 #[.agg #[.string m.nm,.string m.ov]] w fun e w'=>e=.returned (.agg #[.string m.nm,.string m.ov])∧Bel w w':=by
 go_enter Tryz.func76,Tryz.ntmps76
 go_wp2;refine bodyPost_ret (v:=.agg #[.string m.nm,.string m.ov]) (by simp[results,Tryz.results76,go_sem]) rfl ⟨rfl, ?_⟩;repeat(first|exact br|refine ab ?_ _|refine Below.setCell ?_ (by simp) _)
theorem tc (b off cap:Nat) (ms:List Tm) (w:World) (hl:ms.length≤1048576) (hb:b<w.heap.size)
  (hc:∀ i,i<ms.length→lD w b (off+i*2) (ms.getD i Tm.none)):
  Calls Tryz.prog 31 #[.slice (some ⟨b,off,none⟩) ms.length cap] w fun e w'=>e=.returned (.slice (some ⟨w.heap.size,0,none⟩) ms.length ms.length)∧Bel w w'∧ai w' w.heap.size 138 (ms.length*2)∧
   ∀ i,i<ms.length→lD w' w.heap.size (i*2) (ms.getD i Tm.none):=by
 obtain⟨cs,bP,iL⟩:=sx ms.length hl;go_enter Tryz.func31,Tryz.ntmps31
 go_wp2;go_loopw [4] (fun i wr=>∃ k:Nat,k≤ms.length∧i=.int .i64 k∧Bel w wr∧ai wr w.heap.size 138 (ms.length*2)∧∀ i,i<k→lD wr w.heap.size (i*2) (ms.getD i Tm.none)) (fun i _=>ms.length - (intOf i).toNat)
 case atStart=>exact⟨0,nz,rfl,ab br _,ai.alloc w cs 138 _ bP,fun i hi=>absurd hi (Nat.not_lt_zero i)⟩
 case round=>
  obtain⟨k,hk,rfl,hB,hO,aw⟩:=hrel;have HA:=hid aw;have HO:=hid hO;clear aw iL bP hO;by_cases av:k<ms.length
  ·have hf:=(hc k av).later hB hb;obtain⟨m,hm⟩:∃ m,m=ms.getD k Tm.none:=⟨_,rfl⟩
   rw[← hm]at hf;have HX:=hid (And.intro hf.sized hm);obtain⟨c0,c1,_⟩:=hf;clear hm hc;go_wp2_with fail
   refine(FO m wr).mono ?_;rintro e w2 ⟨rfl,aA⟩;have bE:=aa hB aA;have eK:=HO.out.later aA;have HP:Hid (∀ v,v=[.string m.nm,.string m.ov]→
     Bel w (aI w2 w.heap.size (k*2) 0 v)∧ai (aI w2 w.heap.size (k*2) 0 v) w.heap.size 138 (ms.length*2)∧∀ i,i<k+1→lD (aI w2 w.heap.size (k*2) 0 v) w.heap.size (i*2) (ms.getD i Tm.none)):=by
    intro v hv;subst hv;refine⟨aY (a:=w) _ nr _ _ _ bE,fM _ _ _ _ eK,fun i hi=> ?_⟩;by_cases hik:i<k
    ·exact((HA.out i hik).later aA HO.out.lt).aI (k*2) _ (by omega)
    ·obtain rfl:i=k:=by omega
     rw[← HX.out.2];exact uq eK (i*2) (by omega) m HX.out.1
   clear c0 c1 HX;have ij:=eK.frozen;obtain⟨v0,o0⟩:=eK.cell (k*2) (by omega);obtain⟨v1,o1⟩:=eK.cell (k*2+1) (by omega);clear eK bE aA;go_wp2;go_roundw
   case rel=>exact⟨k+1,by omega,by go_num,(HP.out _ rfl).1,(HP.out _ rfl).2.1,(HP.out _ rfl).2.2⟩
   case measure=>simp[intOf];omega
  ·obtain rfl:k=ms.length:=by omega
   go_wp2;go_ret;exact⟨rfl,hB,HO.out,HA.out⟩
theorem rX (a:Option Addr) (cap:Nat) (w:World):
  Calls Tryz.prog 31 #[.slice a 0 cap] w fun e w'=>e=.returned (.slice (some ⟨w.heap.size,0,none⟩) 0 0)∧∃ cs:Array Value,cs.size=0∧w'=w.alloc (.cells cs 138):=by
 obtain⟨cs,rB,iJ⟩:=sx 0 (by omega);have iL:∀ W:World,(Instr.makeSlice 38 (.int .i64 0) (.int .i64 0)).run Tryz.prog W=.ok (.slice (some ⟨W.heap.size,0,none⟩) 0 0) (W.alloc (.cells cs 138)):=iJ;clear iJ;go_enter Tryz.func31,Tryz.ntmps31
 go_wp2;refine wp_loop_rounds 1 ?_;rw[rounds_succ];go_wp2;go_ret;exact⟨rfl,_,by omega,rfl⟩
theorem Dk (v:Value) (ms:List Tm) (w:World) (hl:ms.length≤1048576) (h:oo w v ms):
  Calls Tryz.prog 31 #[v] w fun e w'=>e=.returned (.slice (some ⟨w.heap.size,0,none⟩) ms.length ms.length)∧Bel w w'∧eB w' w.heap.size ms:=by
 rcases h with⟨a,cap,rfl,rfl⟩|⟨b,off,cap,rfl,hb,_,hc⟩
 ·refine(rX a cap w).mono ?_;rintro e w' ⟨rfl,cs,bP,rfl⟩;exact⟨rfl,ab br _,⟨by simp,by simp,fun i hi=>absurd hi (Nat.not_lt_zero i)⟩⟩
 ·refine(tc b off cap ms w hl hb hc).mono ?_;rintro e w' ⟨rfl,h1,h2,h3⟩;exact⟨rfl,h1,h2.lt,hl,h3⟩
theorem EY (m:Tm) (w:World):
  Calls Tryz.prog 100 #[.agg #[.string m.nm,.string m.ov],.agg #[.string m.nm,.string m.ov]] w fun e w'=>e=.returned (.bool true)∧Bel w w':=by
 go_enter Tryz.func100,Tryz.ntmps100
 go_wp2;go_ret;exact⟨rfl,ab (ab br _) _⟩
theorem CW (B B':Nat) (ms:List Tm) (w:World) (h:eB w B ms) (h':eB w B' ms):
  Calls Tryz.prog 45 #[.slice (some ⟨B,0,none⟩) ms.length ms.length,.slice (some ⟨B',0,none⟩) ms.length ms.length] w fun e w'=>e=.returned (.bool true)∧Bel w w':=by
 have hl:=h.len;have HH:=hid (And.intro h h');clear h h';go_enter Tryz.func45,Tryz.ntmps45
 go_wp2;go_loopw [5] (fun i wr=>∃ k:Nat,k≤ms.length∧i=.int .i64 k∧Bel w wr) (fun i _=>ms.length - (intOf i).toNat)
 case atStart=>exact⟨0,nz,rfl,br⟩
 case round=>
  obtain⟨k,hk,rfl,hW⟩:=hrel;by_cases av:k<ms.length
  ·have q:=(HH.out.1.later hW).at_ k av;have q':=(HH.out.2.later hW).at_ k av;obtain⟨m,hm⟩:∃ m,m=ms.getD k Tm.none:=⟨_,rfl⟩
   rw[← hm]at q q';obtain⟨c0,c1,_⟩:=q;obtain⟨d0,d1,_⟩:=q';have HX:=hid fun (W:World) (_:Bel wr W)=>EY m W;clear hm;go_wp2_with fail
   go_region_with (go_at_call 100;refine(HX.out _ ?_).mono ?_;(repeat(first|exact br|refine Below.drew ?_));rintro e w2 ⟨rfl,aA⟩)
   all_goals
    go_wp2;go_roundw
    case rel=>
     refine⟨k+1,by omega,by go_num, ?_⟩;repeat(first|exact aa hW aA|exact aa hW.drew aA|exact aa hW.drew.drew aA|refine Below.drew ?_)
    case measure=>simp[intOf];omega
  ·go_wp2;go_ret;exact⟨rfl,hW⟩
theorem E8 (m:Tm) (left:Int) (w:World) (h0:0≤left) (h1:left≤1048576) (hs:m.sized):
  Calls Tryz.prog 54 #[.agg #[.string m.nm,.string m.ov],.int .i64 left] w fun e w'=>(∃ r:Int,e=.returned (.int .i64 r)∧ -1≤r∧r≤left)∧Bel w w':=by
 obtain⟨s0,s1⟩:=hs;unfold maxLen at s0 s1;by_cases c1:left<(m.nm.size:Int)
 ·go_enter Tryz.func54,Tryz.ntmps54
  go_wp2;go_ret;exact⟨⟨_,rfl,by omega,by omega⟩,ab br _⟩
 by_cases c2:left - m.nm.size<(m.ov.size:Int)
 all_goals
  go_enter Tryz.func54,Tryz.ntmps54
  go_wp2;go_ret;exact⟨⟨_,rfl,by omega,by omega⟩,ab br _⟩
theorem rW (b off cap:Nat) (ms:List Tm) (left:Int) (w:World) (h0:0≤left) (h1:left≤1048576) (hb:b<w.heap.size) (hl:ms.length≤maxLen)
  (hc:∀ i,i<ms.length→lD w b (off+i*2) (ms.getD i Tm.none)):
  Calls Tryz.prog 19 #[.slice (some ⟨b,off,none⟩) ms.length cap,.int .i64 left] w fun e w'=>(∃ r:Int,e=.returned (.int .i64 r)∧szP ((ms.length:Int)≤left) left r)∧Bel w w':=by
 unfold maxLen at hl;by_cases hneg:left<(ms.length:Int)
 ·go_enter Tryz.func19,Tryz.ntmps19
  go_wp2;go_ret;exact⟨⟨_,rfl,by unfold szP;refine⟨by omega,by omega,by omega⟩⟩,br⟩
 ·go_enter Tryz.func19,Tryz.ntmps19
  go_wp2;go_loopw [1,5] (fun l i wr=>∃ (k:Nat) (r:Int),k≤ms.length∧i=.int .i64 k∧l=.int .i64 r∧0≤r∧r≤left∧Bel w wr) (fun _ i _=>ms.length - (intOf i).toNat)
  case atStart=>exact⟨0,_,nz,rfl,rfl,by omega,by omega,br⟩
  case round=>
   obtain⟨k,r,hk,rfl,rfl,r0,r1,hB⟩:=hrel;by_cases av:k<ms.length
   ·have hf:=(hc k av).later hB hb;obtain⟨m,hm⟩:∃ m,m=ms.getD k Tm.none:=⟨_,rfl⟩
    rw[← hm]at hf;have HX:Hid (Calls Tryz.prog 54 #[.agg #[.string m.nm,.string m.ov],.int .i64 r] wr fun e w'=>(∃ r':Int,e=.returned (.int .i64 r')∧ -1≤r'∧r'≤r)∧Bel wr w'):=
     E8 m r wr r0 (by omega) hf.sized
    obtain⟨c0,c1,_⟩:=hf;clear hm hc;go_wp2_with fail
    refine HX.out.mono ?_;rintro e w2 ⟨⟨r',rfl,q1,q2⟩,aA⟩;have bE:=aa hB aA;clear aA c0 c1 HX;by_cases c2:r'<0
    ·go_wp2;go_ret;exact⟨⟨_,rfl,by unfold szP;refine⟨by omega,by omega,by omega⟩⟩,bE⟩
    ·go_wp2;go_roundw
     case rel=>exact⟨k+1,_,by omega,by go_num,rfl,by omega,by omega,bE⟩
     case measure=>simp[intOf];omega
   ·go_wp2;go_ret;exact⟨⟨_,rfl,by unfold szP;exact⟨by omega,by omega,fun _=>by omega⟩⟩,hB⟩
theorem s7 (a:Option Addr) (cap:Nat) (left:Int) (w:World) (h0:0≤left) (h1:left≤1048576):
  Calls Tryz.prog 19 #[.slice a 0 cap,.int .i64 left] w fun e w'=>e=.returned (.int .i64 left)∧w=w':=by
 go_enter Tryz.func19,Tryz.ntmps19
 go_wp2;refine wp_loop_rounds 1 ?_;rw[rounds_succ];go_wp2;go_ret;exact⟨Pl.aP (by omega),rfl⟩
theorem DI (v:Value) (ms:List Tm) (left:Int) (w:World) (h0:0≤left) (h1:left≤1048576) (h:oo w v ms):
  Calls Tryz.prog 19 #[v,.int .i64 left] w fun e w'=>(∃ r:Int,e=.returned (.int .i64 r)∧szP ((ms.length:Int)≤left) left r)∧Bel w w':=by
 rcases h with⟨a,cap,rfl,rfl⟩|⟨b,off,cap,rfl,hb,hl,hc⟩
 ·refine(s7 a cap left w h0 h1).mono ?_;rintro e w' ⟨rfl,rfl⟩;exact⟨⟨_,rfl,by unfold szP;exact⟨by omega,by omega,fun _=>by simpa using h0⟩⟩,br⟩
 ·exact rW b off cap ms left w h0 h1 hb hl hc
theorem qS (b off cap:Nat) (fs:List Fld) (left:Int) (w:World) (h0:0≤left) (h1:left≤1048576) (hb:b<w.heap.size) (hl:fs.length≤maxLen)
  (hc:∀ i,i<fs.length→∃ vs,j5 w b (off+i*11) (fs.getD i Fld.none) vs):
  Calls Tryz.prog 112 #[.slice (some ⟨b,off,none⟩) fs.length cap,.int .i64 left] w fun e w'=>(∃ r:Int,e=.returned (.int .i64 r)∧szP ((fs.length:Int)≤left∧∀ f∈fs,f.small) left r)∧Bel w w':=by
 unfold maxLen at hl;by_cases hneg:left<(fs.length:Int)
 ·go_enter Tryz.func112,Tryz.ntmps112
  go_wp2;go_ret;exact⟨⟨_,rfl,by unfold szP;refine⟨by omega,by omega,by omega⟩⟩,br⟩
 ·go_enter Tryz.func112,Tryz.ntmps112
  go_wp2;go_loopw [1,5] (fun l i wr=>∃ (k:Nat) (r:Int),k≤fs.length∧i=.int .i64 k∧l=.int .i64 r∧0≤r∧r≤left∧Bel w wr∧∀ f∈fs.take k,f.small) (fun _ i _=>fs.length - (intOf i).toNat)
  case atStart=>exact⟨0,_,nz,rfl,rfl,by omega,by omega,br,by simp⟩
  case round=>
   obtain⟨k,r,hk,rfl,rfl,r0,r1,hB,dQ⟩:=hrel;have HS:=hid dQ;clear dQ;by_cases av:k<fs.length
   ·obtain⟨vs,hf⟩:=hc k av;have kY:=hf.later hB hb;have HX:Hid (∀ f:Fld,f=fs.getD k Fld.none→Calls Tryz.prog 159 #[.agg #[.string f.nm,.int .i64 f.kind,.int .i64 f.least,.int .i64 f.most,vs,.string f.to,.int .i64 f.role,.bool f.must,.bool f.fixed,.string f.de,.string f.we],.int .i64 r] wr fun e w'=>(∃ r':Int,e=.returned (.int .i64 r')∧fC f.words.length r r')∧Bel wr w'):=by
     intro f fH;subst fH;exact De _ _ _ _ vs _ _ _ _ _ _ wr _ r r0 (by omega) kY.texts kY.sized.1 kY.sized.2.1 kY.sized.2.2.1 kY.sized.2.2.2
    obtain⟨f,fH⟩:∃ f,f=fs.getD k Fld.none:=⟨_,rfl⟩
    rw[← fH]at kY;obtain⟨c0,c1,c2,c3,c4,c5,c6,c7,c8,c9,c10,_,_⟩:=kY;have zc:=hid fH;clear fH hf hc;go_wp2_with fail
    refine(HX.out f zc.out).mono ?_;rintro e w2 ⟨⟨r',rfl,hr⟩,aA⟩;have HR:=hid hr;have bE:=aa hB aA;have q1: -1≤r':=hr.1;have q2:r'≤r:=hr.2.1;clear hr aA c0 c1 c2 c3 c4 c5 c6 c7 c8 c9 c10 HX;by_cases c2:r'<0
    ·go_wp2;go_ret;exact⟨⟨_,rfl,by unfold szP;refine⟨by omega,by omega,by omega⟩⟩,bE⟩
    ·have Nl:Hid (∀ f∈fs.take (k+1),f.small):=by
      refine tQ HS.out av ?_;rw[← zc.out];have:=HR.out.2.2 (by omega);show f.words.length≤1048576;omega
     go_wp2;go_roundw
     case rel=>exact⟨k+1,_,by omega,by go_num,rfl,by omega,by omega,bE,Nl.out⟩
     case measure=>simp[intOf];omega
   ·have HW:=hid (sH HS.out (by omega));go_wp2;go_ret;exact⟨⟨_,rfl,by unfold szP;exact⟨by omega,by omega,fun _=>⟨by omega,HW.out⟩⟩⟩,hB⟩
theorem qQ (a:Option Addr) (cap:Nat) (left:Int) (w:World) (h0:0≤left) (h1:left≤1048576):
  Calls Tryz.prog 112 #[.slice a 0 cap,.int .i64 left] w fun e w'=>e=.returned (.int .i64 left)∧w=w':=by
 go_enter Tryz.func112,Tryz.ntmps112
 go_wp2;refine wp_loop_rounds 1 ?_;rw[rounds_succ];go_wp2;go_ret;exact⟨Pl.aP (by omega),rfl⟩
theorem zX (v:Value) (fs:List Fld) (left:Int) (w:World) (h0:0≤left) (h1:left≤1048576) (h:jq w v fs):
  Calls Tryz.prog 112 #[v,.int .i64 left] w fun e w'=>(∃ r:Int,e=.returned (.int .i64 r)∧szP ((fs.length:Int)≤left∧∀ f∈fs,f.small) left r)∧Bel w w':=by
 rcases h with⟨a,cap,rfl,rfl⟩|⟨b,off,cap,rfl,hb,hl,hc⟩
 ·refine(qQ a cap left w h0 h1).mono ?_;rintro e w' ⟨rfl,rfl⟩;exact⟨⟨_,rfl,by unfold szP;exact⟨by omega,by omega,fun _=>⟨by simpa using h0,by simp⟩⟩⟩,br⟩
 ·exact qS b off cap fs left w h0 h1 hb hl hc
theorem Du (s:Shp) (v:Value) (left:Int) (w:World) (h0:0≤left) (h1:left≤1048576) (h:jq w v s.fields) (hk:s.kind.size≤maxLen):
  Calls Tryz.prog 52 #[.agg #[.string s.kind,v],.int .i64 left] w fun e w'=>(∃ r:Int,e=.returned (.int .i64 r)∧szP s.small left r)∧Bel w w':=by
 unfold maxLen at hk;have HX:Hid (∀ (o:Obj) (l:Int),0≤l→l≤1048576→Calls Tryz.prog 112 #[v,.int .i64 l] (w.alloc o) fun e w'=>(∃ r:Int,e=.returned (.int .i64 r)∧szP ((s.fields.length:Int)≤l∧∀ f∈s.fields,f.small) l r)∧Below (w.alloc o).heap.size (w.alloc o) w'):=
  fun o l l0 l1=>zX v s.fields l _ l0 l1 (h.later (ab br o))
 clear h;by_cases c1:left<(s.kind.size:Int)
 ·go_enter Tryz.func52,Tryz.ntmps52
  go_wp2;go_ret;exact⟨⟨_,rfl,by unfold szP;exact⟨by omega,by omega,by omega⟩⟩,ab br _⟩
 ·go_enter Tryz.func52,Tryz.ntmps52
  go_wp2_with fail
  refine(HX.out _ _ (by omega) (by omega)).mono ?_;rintro e w2 ⟨⟨r,rfl,hr⟩,aA⟩;have bE:=aa (ab br _) aA;have HR:=hid hr;have q1: -1≤r:=hr.1;have q2:r≤left - s.kind.size:=hr.2.1;clear hr HX aA;by_cases c2:r<0
  all_goals
   go_wp2;go_ret;refine⟨⟨_,rfl, ?_⟩,bE⟩;unfold szP;exact⟨by omega,by omega,fun h=>⟨by have:=(HR.out.2.2 (by omega)).1;omega,(HR.out.2.2 (by omega)).2⟩⟩
theorem qO (b off cap:Nat) (ss:List Shp) (left:Int) (w:World) (h0:0≤left) (h1:left≤1048576) (hb:b<w.heap.size) (hl:ss.length≤maxLen)
  (hc:∀ i,i<ss.length→∃ x,nM w b (off+i*2) (ss.getD i Shp.none) x):
  Calls Tryz.prog 17 #[.slice (some ⟨b,off,none⟩) ss.length cap,.int .i64 left] w fun e w'=>(∃ r:Int,e=.returned (.int .i64 r)∧szP ((ss.length:Int)≤left∧∀ s∈ss,s.small) left r)∧Bel w w':=by
 unfold maxLen at hl;by_cases hneg:left<(ss.length:Int)
 ·go_enter Tryz.func17,Tryz.ntmps17
  go_wp2;go_ret;exact⟨⟨_,rfl,by unfold szP;refine⟨by omega,by omega,by omega⟩⟩,br⟩
 ·go_enter Tryz.func17,Tryz.ntmps17
  go_wp2;go_loopw [1,5] (fun l i wr=>∃ (k:Nat) (r:Int),k≤ss.length∧i=.int .i64 k∧l=.int .i64 r∧0≤r∧r≤left∧Bel w wr∧∀ s∈ss.take k,s.small) (fun _ i _=>ss.length - (intOf i).toNat)
  case atStart=>exact⟨0,_,nz,rfl,rfl,by omega,by omega,br,by simp⟩
  case round=>
   obtain⟨k,r,hk,rfl,rfl,r0,r1,hB,dQ⟩:=hrel;have HS:=hid dQ;clear dQ;by_cases av:k<ss.length
   ·obtain⟨vs,hf⟩:=hc k av;have kY:=hf.later hB hb;obtain⟨s,j6⟩:∃ s,s=ss.getD k Shp.none:=⟨_,rfl⟩
    rw[← j6]at kY;have HX:Hid (Calls Tryz.prog 52 #[.agg #[.string s.kind,vs],.int .i64 r] wr fun e w'=>(∃ r':Int,e=.returned (.int .i64 r')∧szP s.small r r')∧Bel wr w'):=
     Du s vs r wr r0 (by omega) kY.fields kY.sized
    obtain⟨c0,c1,_,_⟩:=kY;have zc:=hid j6;clear j6 hf hc;go_wp2_with fail
    refine HX.out.mono ?_;rintro e w2 ⟨⟨r',rfl,hr⟩,aA⟩;have HR:=hid hr;have bE:=aa hB aA;have q1: -1≤r':=hr.1;have q2:r'≤r:=hr.2.1;clear hr aA c0 c1 HX;by_cases c2:r'<0
    ·go_wp2;go_ret;exact⟨⟨_,rfl,by unfold szP;refine⟨by omega,by omega,by omega⟩⟩,bE⟩
    ·have Nl:Hid (∀ s∈ss.take (k+1),s.small):=by
      refine A5 HS.out av ?_;rw[← zc.out];exact HR.out.2.2 (by omega)
     go_wp2;go_roundw
     case rel=>exact⟨k+1,_,by omega,by go_num,rfl,by omega,by omega,bE,Nl.out⟩
     case measure=>simp[intOf];omega
   ·have HW:=hid (yC HS.out (by omega));go_wp2;go_ret;exact⟨⟨_,rfl,by unfold szP;exact⟨by omega,by omega,fun _=>⟨by omega,HW.out⟩⟩⟩,hB⟩
theorem qL (a:Option Addr) (cap:Nat) (left:Int) (w:World) (h0:0≤left) (h1:left≤1048576):
  Calls Tryz.prog 17 #[.slice a 0 cap,.int .i64 left] w fun e w'=>e=.returned (.int .i64 left)∧w=w':=by
 go_enter Tryz.func17,Tryz.ntmps17
 go_wp2;refine wp_loop_rounds 1 ?_;rw[rounds_succ];go_wp2;go_ret;exact⟨Pl.aP (by omega),rfl⟩
theorem Ac (v:Value) (ss:List Shp) (left:Int) (w:World) (h0:0≤left) (h1:left≤1048576) (h:ke w v ss):
  Calls Tryz.prog 17 #[v,.int .i64 left] w fun e w'=>(∃ r:Int,e=.returned (.int .i64 r)∧szP ((ss.length:Int)≤left∧∀ s∈ss,s.small) left r)∧Bel w w':=by
 rcases h with⟨a,cap,rfl,rfl⟩|⟨b,off,cap,rfl,hb,hl,hc⟩
 ·refine(qL a cap left w h0 h1).mono ?_;rintro e w' ⟨rfl,rfl⟩;exact⟨⟨_,rfl,by unfold szP;exact⟨by omega,by omega,fun _=>⟨by simpa using h0,by simp⟩⟩⟩,br⟩
 ·exact qO b off cap ss left w h0 h1 hb hl hc
theorem Tryz.CD:(Tryz.prog.info? 136).map (fun i=>(i.zero,i.size,i.bytes))=some (some (.agg #[.string ByteArray.empty,.string ByteArray.empty,.string ByteArray.empty,.string ByteArray.empty,.string ByteArray.empty,.string ByteArray.empty]),6,96):=by kernel_rfl
theorem qb (n:Nat) (h:n≤1048576):∃ cs:Array Value,cs.size=n*6∧∀ W:World,
  (Instr.makeSlice 37 (.int .i64 (n:Int)) (.int .i64 (n:Int))).run Tryz.prog W=.ok (.slice (some ⟨W.heap.size,0,none⟩) n n) (W.alloc (.cells cs 136)):=by
 obtain⟨i,hi,lP⟩:=Option.map_eq_some_iff.1 Tryz.CD;simp only[Prod.mk.injEq]at lP;obtain⟨hz,hs,hb⟩:=lP;refine⟨madeCells (Value.agg #[.string ByteArray.empty,.string ByteArray.empty,.string ByteArray.empty,.string ByteArray.empty,.string ByteArray.empty,.string ByteArray.empty]).cells (n*6),size_madeCells _ _,fun W=> ?_⟩;have hr:=run_make (P:=Tryz.prog) W 37 136 i _ Tryz.underlying37 hi hz .i64 .i64 n n (by omega) (Int.le_refl _) (by rw[hb];omega) (by omega);simp only[Int.toNat_natCast,hs]at hr;exact hr
theorem E2 (m:Mnd) (w:World):
  Calls Tryz.prog 75 #[.agg #[.string m.kind,.string m.field,.string m.whn,.string m.is_,.string m.put,.string m.frm]] w fun e w'=>e=.returned (.agg #[.string m.kind,.string m.field,.string m.whn,.string m.is_,.string m.put,.string m.frm])∧Bel w w':=by
 go_enter Tryz.func75,Tryz.ntmps75
 go_wp2;refine bodyPost_ret (v:=.agg #[.string m.kind,.string m.field,.string m.whn,.string m.is_,.string m.put,.string m.frm]) (by simp[results,Tryz.results75,go_sem]) rfl ⟨rfl, ?_⟩;repeat(first|exact br|refine ab ?_ _|refine Below.setCell ?_ (by simp) _)
theorem rZ (b off cap:Nat) (ms:List Mnd) (w:World) (hl:ms.length≤1048576) (hb:b<w.heap.size)
  (hc:∀ i,i<ms.length→ga w b (off+i*6) (ms.getD i Mnd.none)):
  Calls Tryz.prog 30 #[.slice (some ⟨b,off,none⟩) ms.length cap] w fun e w'=>e=.returned (.slice (some ⟨w.heap.size,0,none⟩) ms.length ms.length)∧Bel w w'∧ai w' w.heap.size 136 (ms.length*6)∧
   ∀ i,i<ms.length→ga w' w.heap.size (i*6) (ms.getD i Mnd.none):=by
 obtain⟨cs,bP,iL⟩:=qb ms.length hl;go_enter Tryz.func30,Tryz.ntmps30
 go_wp2;go_loopw [4] (fun i wr=>∃ k:Nat,k≤ms.length∧i=.int .i64 k∧Bel w wr∧ai wr w.heap.size 136 (ms.length*6)∧∀ i,i<k→ga wr w.heap.size (i*6) (ms.getD i Mnd.none)) (fun i _=>ms.length - (intOf i).toNat)
 case atStart=>exact⟨0,nz,rfl,ab br _,ai.alloc w cs 136 _ bP,fun i hi=>absurd hi (Nat.not_lt_zero i)⟩
 case round=>
  obtain⟨k,hk,rfl,hB,hO,aw⟩:=hrel;have HA:=hid aw;have HO:=hid hO;clear aw iL bP hO;by_cases av:k<ms.length
  ·have hf:=(hc k av).later hB hb;obtain⟨m,hm⟩:∃ m,m=ms.getD k Mnd.none:=⟨_,rfl⟩
   rw[← hm]at hf;have HX:=hid (And.intro hf.sized hm);obtain⟨c0,c1,c2,c3,c4,c5,_⟩:=hf;clear hm hc;go_wp2_with fail
   refine(E2 m wr).mono ?_;rintro e w2 ⟨rfl,aA⟩;have bE:=aa hB aA;have eK:=HO.out.later aA;have HP:Hid (∀ v,v=[.string m.kind,.string m.field,.string m.whn,.string m.is_,.string m.put,.string m.frm]→
     Bel w (aI w2 w.heap.size (k*6) 0 v)∧ai (aI w2 w.heap.size (k*6) 0 v) w.heap.size 136 (ms.length*6)∧∀ i,i<k+1→ga (aI w2 w.heap.size (k*6) 0 v) w.heap.size (i*6) (ms.getD i Mnd.none)):=by
    intro v hv;subst hv;refine⟨aY (a:=w) _ nr _ _ _ bE,fM _ _ _ _ eK,fun i hi=> ?_⟩;by_cases hik:i<k
    ·exact((HA.out i hik).later aA HO.out.lt).aI (k*6) _ (by omega)
    ·obtain rfl:i=k:=by omega
     rw[← HX.out.2];exact su eK (i*6) (by omega) m HX.out.1
   clear c0 c1 c2 c3 c4 c5 HX;have ij:=eK.frozen;obtain⟨v0,o0⟩:=eK.cell (k*6) (by omega);obtain⟨v1,o1⟩:=eK.cell (k*6+1) (by omega);obtain⟨v2,o2⟩:=eK.cell (k*6+2) (by omega);obtain⟨v3,o3⟩:=eK.cell (k*6+3) (by omega);obtain⟨v4,o4⟩:=eK.cell (k*6+4) (by omega);obtain⟨v5,o5⟩:=eK.cell (k*6+5) (by omega);clear eK bE aA;go_wp2;go_roundw
   case rel=>exact⟨k+1,by omega,by go_num,(HP.out _ rfl).1,(HP.out _ rfl).2.1,(HP.out _ rfl).2.2⟩
   case measure=>simp[intOf];omega
  ·obtain rfl:k=ms.length:=by omega
   go_wp2;go_ret;exact⟨rfl,hB,HO.out,HA.out⟩
theorem r7 (a:Option Addr) (cap:Nat) (w:World):
  Calls Tryz.prog 30 #[.slice a 0 cap] w fun e w'=>e=.returned (.slice (some ⟨w.heap.size,0,none⟩) 0 0)∧∃ cs:Array Value,cs.size=0∧w'=w.alloc (.cells cs 136):=by
 obtain⟨cs,rB,iJ⟩:=qb 0 (by omega);have iL:∀ W:World,(Instr.makeSlice 37 (.int .i64 0) (.int .i64 0)).run Tryz.prog W=.ok (.slice (some ⟨W.heap.size,0,none⟩) 0 0) (W.alloc (.cells cs 136)):=iJ;clear iJ;go_enter Tryz.func30,Tryz.ntmps30
 go_wp2;refine wp_loop_rounds 1 ?_;rw[rounds_succ];go_wp2;go_ret;exact⟨rfl,_,by omega,rfl⟩
theorem DO (v:Value) (ms:List Mnd) (w:World) (hl:ms.length≤1048576) (h:ly w v ms):
  Calls Tryz.prog 30 #[v] w fun e w'=>e=.returned (.slice (some ⟨w.heap.size,0,none⟩) ms.length ms.length)∧Bel w w'∧dv w' w.heap.size ms:=by
 rcases h with⟨a,cap,rfl,rfl⟩|⟨b,off,cap,rfl,hb,_,hc⟩
 ·refine(r7 a cap w).mono ?_;rintro e w' ⟨rfl,cs,bP,rfl⟩;exact⟨rfl,ab br _,⟨by simp,by simp,fun i hi=>absurd hi (Nat.not_lt_zero i)⟩⟩
 ·refine(rZ b off cap ms w hl hb hc).mono ?_;rintro e w' ⟨rfl,h1,h2,h3⟩;exact⟨rfl,h1,h2.lt,hl,h3⟩
theorem FJ (m:Mnd) (w:World):
  Calls Tryz.prog 99 #[.agg #[.string m.kind,.string m.field,.string m.whn,.string m.is_,.string m.put,.string m.frm],.agg #[.string m.kind,.string m.field,.string m.whn,.string m.is_,.string m.put,.string m.frm]] w fun e w'=>e=.returned (.bool true)∧Bel w w':=by
 go_enter Tryz.func99,Tryz.ntmps99
 go_wp2;go_ret;exact⟨rfl,ab (ab br _) _⟩
theorem Dc (B B':Nat) (ms:List Mnd) (w:World) (h:dv w B ms) (h':dv w B' ms):
  Calls Tryz.prog 44 #[.slice (some ⟨B,0,none⟩) ms.length ms.length,.slice (some ⟨B',0,none⟩) ms.length ms.length] w fun e w'=>e=.returned (.bool true)∧Bel w w':=by
 have hl:=h.len;have HH:=hid (And.intro h h');clear h h';go_enter Tryz.func44,Tryz.ntmps44
 go_wp2;go_loopw [5] (fun i wr=>∃ k:Nat,k≤ms.length∧i=.int .i64 k∧Bel w wr) (fun i _=>ms.length - (intOf i).toNat)
 case atStart=>exact⟨0,nz,rfl,br⟩
 case round=>
  obtain⟨k,hk,rfl,hW⟩:=hrel;by_cases av:k<ms.length
  ·have q:=(HH.out.1.later hW).at_ k av;have q':=(HH.out.2.later hW).at_ k av;obtain⟨m,hm⟩:∃ m,m=ms.getD k Mnd.none:=⟨_,rfl⟩
   rw[← hm]at q q';obtain⟨c0,c1,c2,c3,c4,c5,_⟩:=q;obtain⟨d0,d1,d2,d3,d4,d5,_⟩:=q';have HX:=hid fun (W:World) (_:Bel wr W)=>FJ m W;clear hm;go_wp2_with fail
   go_region_with (go_at_call 99;refine(HX.out _ ?_).mono ?_;(repeat(first|exact br|refine Below.drew ?_));rintro e w2 ⟨rfl,aA⟩)
   all_goals
    go_wp2;go_roundw
    case rel=>
     refine⟨k+1,by omega,by go_num, ?_⟩;repeat(first|exact aa hW aA|exact aa hW.drew aA|exact aa hW.drew.drew aA|refine Below.drew ?_)
    case measure=>simp[intOf];omega
  ·go_wp2;go_ret;exact⟨rfl,hW⟩
theorem Fo (m:Mnd) (left:Int) (w:World) (h0:0≤left) (h1:left≤1048576) (hs:m.sized):
  Calls Tryz.prog 53 #[.agg #[.string m.kind,.string m.field,.string m.whn,.string m.is_,.string m.put,.string m.frm],.int .i64 left] w fun e w'=>(∃ r:Int,e=.returned (.int .i64 r)∧ -1≤r∧r≤left)∧Bel w w':=by
 obtain⟨s0,s1,s2,s3,s4,s5⟩:=hs;unfold maxLen at s0 s1 s2 s3 s4 s5;by_cases c1:left<(m.kind.size:Int)
 ·go_enter Tryz.func53,Tryz.ntmps53
  go_wp2;go_ret;exact⟨⟨_,rfl,by omega,by omega⟩,ab br _⟩
 by_cases c2:left - m.kind.size<(m.field.size:Int)
 ·go_enter Tryz.func53,Tryz.ntmps53
  go_wp2;go_ret;exact⟨⟨_,rfl,by omega,by omega⟩,ab br _⟩
 by_cases c3:left - m.kind.size - m.field.size<(m.whn.size:Int)
 ·go_enter Tryz.func53,Tryz.ntmps53
  go_wp2;go_ret;exact⟨⟨_,rfl,by omega,by omega⟩,ab br _⟩
 by_cases c4:left - m.kind.size - m.field.size - m.whn.size<(m.is_.size:Int)
 ·go_enter Tryz.func53,Tryz.ntmps53
  go_wp2;go_ret;exact⟨⟨_,rfl,by omega,by omega⟩,ab br _⟩
 by_cases c5:left - m.kind.size - m.field.size - m.whn.size - m.is_.size<(m.put.size:Int)
 ·go_enter Tryz.func53,Tryz.ntmps53
  go_wp2;go_ret;exact⟨⟨_,rfl,by omega,by omega⟩,ab br _⟩
 by_cases c6:left - m.kind.size - m.field.size - m.whn.size - m.is_.size - m.put.size<(m.frm.size:Int)
 all_goals
  go_enter Tryz.func53,Tryz.ntmps53
  go_wp2;go_ret;exact⟨⟨_,rfl,by omega,by omega⟩,ab br _⟩
theorem sh (b off cap:Nat) (ms:List Mnd) (left:Int) (w:World) (h0:0≤left) (h1:left≤1048576) (hb:b<w.heap.size) (hl:ms.length≤maxLen)
  (hc:∀ i,i<ms.length→ga w b (off+i*6) (ms.getD i Mnd.none)):
  Calls Tryz.prog 18 #[.slice (some ⟨b,off,none⟩) ms.length cap,.int .i64 left] w fun e w'=>(∃ r:Int,e=.returned (.int .i64 r)∧szP ((ms.length:Int)≤left) left r)∧Bel w w':=by
 unfold maxLen at hl;by_cases hneg:left<(ms.length:Int)
 ·go_enter Tryz.func18,Tryz.ntmps18
  go_wp2;go_ret;exact⟨⟨_,rfl,by unfold szP;refine⟨by omega,by omega,by omega⟩⟩,br⟩
 ·go_enter Tryz.func18,Tryz.ntmps18
  go_wp2;go_loopw [1,5] (fun l i wr=>∃ (k:Nat) (r:Int),k≤ms.length∧i=.int .i64 k∧l=.int .i64 r∧0≤r∧r≤left∧Bel w wr) (fun _ i _=>ms.length - (intOf i).toNat)
  case atStart=>exact⟨0,_,nz,rfl,rfl,by omega,by omega,br⟩
  case round=>
   obtain⟨k,r,hk,rfl,rfl,r0,r1,hB⟩:=hrel;by_cases av:k<ms.length
   ·have hf:=(hc k av).later hB hb;obtain⟨m,hm⟩:∃ m,m=ms.getD k Mnd.none:=⟨_,rfl⟩
    rw[← hm]at hf;have HX:Hid (Calls Tryz.prog 53 #[.agg #[.string m.kind,.string m.field,.string m.whn,.string m.is_,.string m.put,.string m.frm],.int .i64 r] wr fun e w'=>(∃ r':Int,e=.returned (.int .i64 r')∧ -1≤r'∧r'≤r)∧Bel wr w'):=
     Fo m r wr r0 (by omega) hf.sized
    obtain⟨c0,c1,c2,c3,c4,c5,_⟩:=hf;clear hm hc;go_wp2_with fail
    refine HX.out.mono ?_;rintro e w2 ⟨⟨r',rfl,q1,q2⟩,aA⟩;have bE:=aa hB aA;clear aA c0 c1 c2 c3 c4 c5 HX;by_cases c2:r'<0
    ·go_wp2;go_ret;exact⟨⟨_,rfl,by unfold szP;refine⟨by omega,by omega,by omega⟩⟩,bE⟩
    ·go_wp2;go_roundw
     case rel=>exact⟨k+1,_,by omega,by go_num,rfl,by omega,by omega,bE⟩
     case measure=>simp[intOf];omega
   ·go_wp2;go_ret;exact⟨⟨_,rfl,by unfold szP;exact⟨by omega,by omega,fun _=>by omega⟩⟩,hB⟩
theorem ta (a:Option Addr) (cap:Nat) (left:Int) (w:World) (h0:0≤left) (h1:left≤1048576):
  Calls Tryz.prog 18 #[.slice a 0 cap,.int .i64 left] w fun e w'=>e=.returned (.int .i64 left)∧w=w':=by
 go_enter Tryz.func18,Tryz.ntmps18
 go_wp2;refine wp_loop_rounds 1 ?_;rw[rounds_succ];go_wp2;go_ret;exact⟨Pl.aP (by omega),rfl⟩
theorem Dz (v:Value) (ms:List Mnd) (left:Int) (w:World) (h0:0≤left) (h1:left≤1048576) (h:ly w v ms):
  Calls Tryz.prog 18 #[v,.int .i64 left] w fun e w'=>(∃ r:Int,e=.returned (.int .i64 r)∧szP ((ms.length:Int)≤left) left r)∧Bel w w':=by
 rcases h with⟨a,cap,rfl,rfl⟩|⟨b,off,cap,rfl,hb,hl,hc⟩
 ·refine(ta a cap left w h0 h1).mono ?_;rintro e w' ⟨rfl,rfl⟩;exact⟨⟨_,rfl,by unfold szP;exact⟨by omega,by omega,fun _=>by simpa using h0⟩⟩,br⟩
 ·exact sh b off cap ms left w h0 h1 hb hl hc
structure Lw where
 shapes:List Shp
 mends:List Mnd
 teams:List Tm
structure uu3 (w:World) (v0 v1 v2:Value) (L:Lw):Prop where
 s:ke w v0 L.shapes
 m:ly w v1 L.mends
 t:oo w v2 L.teams
structure fT (w:World) (b0 b1 b2:Nat) (L:Lw):Prop where
 s:bh w b0 L.shapes
 m:dv w b1 L.mends
 t:eB w b2 L.teams
def Lw.small (L:Lw):Prop:=(L.shapes.length≤1048576∧∀ s∈L.shapes,s.small)∧L.mends.length≤1048576∧L.teams.length≤1048576
theorem uu3.later {w w':World} {v0 v1 v2:Value} {L:Lw} (h:uu3 w v0 v1 v2 L) (hb:Bel w w'):uu3 w' v0 v1 v2 L:=⟨h.s.later hb,h.m.later hb,h.t.later hb⟩
theorem fT.later {w w':World} {b0 b1 b2:Nat} {L:Lw} (h:fT w b0 b1 b2 L) (hb:Bel w w'):fT w' b0 b1 b2 L:=⟨h.s.later hb,h.m.later hb,h.t.later hb⟩
theorem ai.im (W:World) (cs:Array Value) (t:TypeId) (m n:Nat) (h:cs.size=m) (hn:n=W.heap.size):ai (W.alloc (.cells cs t)) n t m:=by
 subst hn;exact ai.alloc W cs t m h
structure bC (W:World) (p:Nat) (v0 v1 v2:Value):Prop where
 lt:p<W.heap.size
 x0:W.cell? ⟨p,0,none⟩=some v0
 x1:W.cell? ⟨p,1,none⟩=some v1
 x2:W.cell? ⟨p,2,none⟩=some v2
theorem bC.later {W W':World} {p:Nat} {v0 v1 v2:Value} (h:bC W p v0 v1 v2) (hb:Bel W W'):bC W' p v0 v1 v2:=by
 have c:∀ j,W'.cell? ⟨p,j,none⟩=W.cell? ⟨p,j,none⟩:=fun j=>hb.cell (p:=⟨p,j,none⟩) h.lt;exact⟨lo h.lt hb.size,(c 0).trans h.x0,(c 1).trans h.x1,(c 2).trans h.x2⟩
theorem bC.new (W:World) (v0 v1 v2:Value) (t:TypeId):bC (W.alloc (.cells #[v0,v1,v2] t)) W.heap.size v0 v1 v2:=⟨by simp,by simp,by simp,by simp⟩
theorem bC.bp (W:World) (p:Nat) (v0 v1 v2:Value) (t:TypeId) (hp:p=W.heap.size):bC (W.alloc (.cells #[v0,v1,v2] t)) p v0 v1 v2:=by
 subst hp;exact bC.new W v0 v1 v2 t
theorem bC.cy {W:World} {p:Nat} {v0 v1 v2:Value} (h:bC W p v0 v1 v2) (o:Obj):bC (W.alloc o) p v0 v1 v2:=h.later (ab br o)
theorem fo.sc {w:World} {B o p:Nat} {s:Shp} (h:fo w B o s) (hp:p<B) (j:Nat) (v:Value):fo (w.setCell ⟨p,j,none⟩ v) B o s:=by
 obtain⟨b,h1,h2,h3,h4,h5,h6,h7⟩:=h;have hb:=h1.1;exact⟨b,⟨h1.1,h1.2.bk (by omega) _ _⟩,by rw[bg];exact h2,h3,h4,(aF _ _ _ _ _ _ (by omega)).trans h5,(aF _ _ _ _ _ _ (by omega)).trans h6,fun i hi=>(h7 i hi).sc (by omega) _ _⟩
theorem bh.sc {w:World} {B p:Nat} {ss:List Shp} (h:bh w B ss) (hp:p<B) (j:Nat) (v:Value):bh (w.setCell ⟨p,j,none⟩ v) B ss:=
 ⟨by rw[bg];exact h.lt,h.len,h.small,fun i hi=>(h.at_ i hi).sc hp j v,h.own.bk (by omega) _ _⟩
theorem dv.sc {w:World} {B p:Nat} {ms:List Mnd} (h:dv w B ms) (hp:p<B) (j:Nat) (v:Value):dv (w.setCell ⟨p,j,none⟩ v) B ms:=by
 have c:∀ q,(w.setCell ⟨p,j,none⟩ v).cell? ⟨B,q,none⟩=w.cell? ⟨B,q,none⟩:=fun q=>aF _ _ _ _ _ _ (by omega);exact⟨by rw[bg];exact h.lt,h.len,fun i hi=>by obtain⟨c0,c1,c2,c3,c4,c5,hs⟩:=h.at_ i hi;exact⟨(c _).trans c0,(c _).trans c1,(c _).trans c2,(c _).trans c3,(c _).trans c4,(c _).trans c5,hs⟩⟩
theorem eB.sc {w:World} {B p:Nat} {ms:List Tm} (h:eB w B ms) (hp:p<B) (j:Nat) (v:Value):eB (w.setCell ⟨p,j,none⟩ v) B ms:=by
 have c:∀ q,(w.setCell ⟨p,j,none⟩ v).cell? ⟨B,q,none⟩=w.cell? ⟨B,q,none⟩:=fun q=>aF _ _ _ _ _ _ (by omega);exact⟨by rw[bg];exact h.lt,h.len,fun i hi=>by obtain⟨c0,c1,hs⟩:=h.at_ i hi;exact⟨(c _).trans c0,(c _).trans c1,hs⟩⟩
theorem yf (v:Value) (ss:List Shp) (w:World) (hl:ss.length≤1048576) (dQ:∀ s∈ss,s.small) (h:ke w v ss):
  Calls Tryz.prog 29 #[v] w fun e w'=>e=.returned (.slice (some ⟨w.heap.size,0,none⟩) ss.length ss.length)∧Bel w w'∧bh w' w.heap.size ss:=by
 refine(Aj v ss w hl dQ h).mono ?_;rintro e w' ⟨rfl,h1,h2,h3⟩;exact⟨rfl,h1,⟨h2.lt,hl,dQ,h3,h2⟩⟩
theorem IS (L:Lw) (v0 v1 v2:Value) (left:Int) (w:World) (h0:0≤left) (h1:left≤1048576) (h:uu3 w v0 v1 v2 L):
  Calls Tryz.prog 5 #[.agg #[v0,v1,v2],.int .i64 left] w fun e w'=>(∃ r:Int,e=.returned (.int .i64 r)∧szP L.small left r)∧Bel w w':=by
 have HH:=hid h;clear h;obtain⟨wa,ch⟩:∃ wa,wa=w.alloc (.cells #[v0,v1,v2] 26):=⟨_,rfl⟩
 have cz:Hid (Bel w wa):=by show Below _ _ _;rw[ch];exact ab br _
 have eZ:Hid (bC wa w.heap.size v0 v1 v2):=by show bC _ _ _ _ _;rw[ch];exact bC.new w v0 v1 v2 _
 have ya:=eZ.out;obtain⟨yz,y0,y1,y2⟩:=ya;go_enter Tryz.func5,Tryz.ntmps5
 go_upto_region 1 with fail
 rw[← ch];clear ch;go_wp2_with fail
 refine(Ac v0 L.shapes left wa h0 h1 (HH.out.later cz.out).s).mono ?_;rintro e wb ⟨⟨r,rfl,hr⟩,hb⟩;have HR:=hid hr;have q1: -1≤r:=hr.1;have q2:r≤left:=hr.2.1;have gv:=hid (aa cz.out hb);have ik:=hid (eZ.out.later hb);clear hr hb yz y0 y1 y2 eZ cz;by_cases c1:r<0
 ·go_wp2;go_ret;exact⟨⟨_,rfl,by unfold szP;exact⟨by omega,by omega,by omega⟩⟩,gv.out⟩
 obtain⟨yz,y0,y1,y2⟩:=ik.out;go_wp2_with fail
 refine(Dz v1 L.mends r wb (by omega) (by omega) (HH.out.later gv.out).m).mono ?_;rintro e wc ⟨⟨r2,rfl,hr⟩,hb⟩;have mn:=hid hr;have q3: -1≤r2:=hr.1;have q4:r2≤r:=hr.2.1;have jE:=hid (aa gv.out hb);have lN:=hid (ik.out.later hb);clear hr hb yz y0 y1 y2 ik gv;by_cases c2:r2<0
 ·go_wp2;go_ret;exact⟨⟨_,rfl,by unfold szP;exact⟨by omega,by omega,by omega⟩⟩,jE.out⟩
 obtain⟨yz,y0,y1,y2⟩:=lN.out;go_wp2_with fail
 refine(DI v2 L.teams r2 wc (by omega) (by omega) (HH.out.later jE.out).t).mono ?_;rintro e wd ⟨⟨r3,rfl,hr⟩,hb⟩;have Ic:=hid hr;have q5: -1≤r3:=hr.1;have q6:r3≤r2:=hr.2.1;have lI:=hid (aa jE.out hb);clear hr hb yz y0 y1 y2 lN jE;by_cases c3:r3<0
 ·go_wp2;go_ret;exact⟨⟨_,rfl,by unfold szP;exact⟨by omega,by omega,by omega⟩⟩,lI.out⟩
 go_wp2;go_ret;refine⟨⟨_,rfl, ?_⟩,lI.out⟩;have k1:=HR.out.2.2 (by omega);have k2:=mn.out.2.2 (by omega);have k3:=Ic.out.2.2 (by omega);unfold szP;exact⟨by omega,by omega,fun _=>⟨⟨by omega,k1.2⟩,by omega,by omega⟩⟩
theorem II (L:Lw) (v0 v1 v2:Value) (w:World) (hs:L.small) (h:uu3 w v0 v1 v2 L):
  Calls Tryz.prog 8 #[.agg #[v0,v1,v2]] w fun e w'=>(∃ b0 b1 b2,e=.returned (.agg #[.slice (some ⟨b0,0,none⟩) L.shapes.length L.shapes.length,.slice (some ⟨b1,0,none⟩) L.mends.length L.mends.length,.slice (some ⟨b2,0,none⟩) L.teams.length L.teams.length])∧fT w' b0 b1 b2 L∧w.heap.size≤b0∧w.heap.size≤b1∧w.heap.size≤b2)∧Bel w w':=by
 have HH:=hid (And.intro h hs);clear h hs;obtain⟨wa,ch⟩:∃ wa,wa=((w.alloc (.cells #[v0,v1,v2] 26)).alloc (.cells #[.slice none 0 0,.slice none 0 0,.slice none 0 0] 40)).alloc (.cells #[.slice none 0 0,.slice none 0 0,.slice none 0 0] 40):=⟨_,rfl⟩
 have cz:Hid (Bel w wa):=by show Below _ _ _;rw[ch];exact ab (ab (ab br _) _) _
 have eZ:Hid (bC wa w.heap.size v0 v1 v2):=by show bC _ _ _ _ _;rw[ch];exact((bC.new w v0 v1 v2 _).cy _).cy _
 have tu:Hid (ai wa (w.heap.size+2) 40 3):=by show ai _ _ _ _;rw[ch];exact ai.im _ _ _ _ _ rfl (by simp)
 have KP:Hid (ai wa (w.heap.size+1) 40 3):=by show ai _ _ _ _;rw[ch];exact(ai.im _ _ _ _ _ rfl (by simp)).cy _
 have GP:Hid (w.heap.size+3≤wa.heap.size):=by show _≤_;rw[ch];simp
 obtain⟨yz,y0,y1,y2⟩:=eZ.out;go_enter Tryz.func8,Tryz.ntmps8
 go_upto_region 2 with fail
 rw[← ch];clear ch;go_wp2_with fail
 refine(yf v0 L.shapes wa HH.out.2.1.1 HH.out.2.1.2 (HH.out.1.later cz.out).s).mono ?_;rintro e wb ⟨rfl,hb,hi⟩;obtain⟨p0,Im⟩:∃ p0,p0=wa.heap.size:=⟨_,rfl⟩
 rw[← Im]at hi ⊢;have pC:Hid (w.heap.size+3≤p0):=by show _≤_;rw[Im];exact GP.out
 have JW:=hid hi;have gv:=hid (aa cz.out hb);have F1:=hid (KP.out.later hb);have ik:=hid (eZ.out.later hb);have pB:=hid (tu.out.later hb);have DY:=hid (Nat.le_trans GP.out hb.size);clear hi hb Im yz y0 y1 y2 eZ cz tu GP;obtain⟨yz,y0,y1,y2⟩:=ik.out;have ij:=pB.out.frozen;have hz:=pB.out.lt;obtain⟨z0,e0⟩:=pB.out.cell 0 (by omega);obtain⟨z1,e1⟩:=pB.out.cell 1 (by omega);obtain⟨z2,e2⟩:=pB.out.cell 2 (by omega);obtain⟨wc,wY⟩:∃ wc,wc=wb.setCell ⟨w.heap.size+2,0,none⟩ (.slice (some ⟨p0,0,none⟩) L.shapes.length L.shapes.length):=⟨_,rfl⟩
 have jE:Hid (Bel w wc):=by show Below _ _ _;rw[wY];exact gv.out.setCell (p:=⟨w.heap.size+2,0,none⟩) (by show w.heap.size≤w.heap.size+2;omega) _
 have lN:Hid (bC wc w.heap.size v0 v1 v2):=by
  show bC _ _ _ _ _;rw[wY];exact⟨by rw[bg];exact yz,(aF _ _ _ _ _ _ (by omega)).trans y0,(aF _ _ _ _ _ _ (by omega)).trans y1,(aF _ _ _ _ _ _ (by omega)).trans y2⟩
 have qx:Hid (ai wc (w.heap.size+2) 40 3∧wc.cell? ⟨w.heap.size+2,0,none⟩=some (.slice (some ⟨p0,0,none⟩) L.shapes.length L.shapes.length)):=by
  show _∧_;rw[wY];exact⟨pB.out.setCell 0 _,eL pB.out 0 (by omega) _⟩
 have Ky:Hid (bh wc p0 L.shapes):=by show bh _ _ _;rw[wY];exact JW.out.sc (by have:=pC.out;omega) _ _
 have Ip:Hid (ai wc (w.heap.size+1) 40 3):=by show ai _ _ _ _;rw[wY];exact F1.out.bk (by omega) _ _
 have GR:Hid (w.heap.size+3≤wc.heap.size):=by show _≤_;rw[wY,bg];exact DY.out
 go_upto_region 3 with fail
 rw[← wY];clear wY yz y0 y1 y2 ij hz e0 e1 e2 gv ik pB JW DY;obtain⟨yz,y0,y1,y2⟩:=lN.out;go_wp2_with fail
 refine(DO v1 L.mends wc HH.out.2.2.1 (HH.out.1.later jE.out).m).mono ?_;rintro e wd ⟨rfl,hb,hi⟩;obtain⟨p1,zn⟩:∃ p1,p1=wc.heap.size:=⟨_,rfl⟩
 rw[← zn]at hi ⊢;have zg:Hid (w.heap.size+3≤p1):=by show _≤_;rw[zn];exact GR.out
 have BG:=hid (And.intro (Ky.out.later hb) hi);have lI:=hid (aa jE.out hb);have vw:=hid (Ip.out.later hb);have nk:=hid (lN.out.later hb);have tv:=hid (And.intro (qx.out.1.later hb) ((hb.cell (p:=⟨w.heap.size+2,0,none⟩) qx.out.1.lt).trans qx.out.2));have I4:=hid (Nat.le_trans GR.out hb.size);clear hi hb zn yz y0 y1 y2 lN jE qx GR Ky;obtain⟨yz,y0,y1,y2⟩:=nk.out;have ij:=tv.out.1.frozen;have hz:=tv.out.1.lt;obtain⟨z0,e0⟩:=tv.out.1.cell 0 (by omega);obtain⟨z1,e1⟩:=tv.out.1.cell 1 (by omega);obtain⟨z2,e2⟩:=tv.out.1.cell 2 (by omega);obtain⟨we,ED⟩:∃ we,we=wd.setCell ⟨w.heap.size+2,1,none⟩ (.slice (some ⟨p1,0,none⟩) L.mends.length L.mends.length):=⟨_,rfl⟩
 have tz:Hid (Bel w we):=by show Below _ _ _;rw[ED];exact lI.out.setCell (p:=⟨w.heap.size+2,1,none⟩) (by show w.heap.size≤w.heap.size+2;omega) _
 have xc:Hid (bC we w.heap.size v0 v1 v2):=by
  show bC _ _ _ _ _;rw[ED];exact⟨by rw[bg];exact yz,(aF _ _ _ _ _ _ (by omega)).trans y0,(aF _ _ _ _ _ _ (by omega)).trans y1,(aF _ _ _ _ _ _ (by omega)).trans y2⟩
 have xa:Hid (ai we (w.heap.size+2) 40 3∧we.cell? ⟨w.heap.size+2,0,none⟩=some (.slice (some ⟨p0,0,none⟩) L.shapes.length L.shapes.length)∧we.cell? ⟨w.heap.size+2,1,none⟩=some (.slice (some ⟨p1,0,none⟩) L.mends.length L.mends.length)):=by
  show _∧_∧_;rw[ED];exact⟨tv.out.1.setCell 1 _,(aF _ _ _ _ _ _ (by omega)).trans tv.out.2,eL tv.out.1 1 (by omega) _⟩
 have Gk:Hid (bh we p0 L.shapes∧dv we p1 L.mends):=by show _∧_;rw[ED];exact⟨BG.out.1.sc (by have:=pC.out;omega) _ _,BG.out.2.sc (by have:=zg.out;omega) _ _⟩
 have Le:Hid (ai we (w.heap.size+1) 40 3):=by show ai _ _ _ _;rw[ED];exact vw.out.bk (by omega) _ _
 have Hv:Hid (w.heap.size+3≤we.heap.size):=by show _≤_;rw[ED,bg];exact I4.out
 go_upto_region 4 with fail
 rw[← ED];clear ED yz y0 y1 y2 ij hz e0 e1 e2 lI nk tv BG I4;obtain⟨yz,y0,y1,y2⟩:=xc.out;go_wp2_with fail
 refine(Dk v2 L.teams we HH.out.2.2.2 (HH.out.1.later tz.out).t).mono ?_;rintro e wf ⟨rfl,hb,hi⟩;obtain⟨p2,yR⟩:∃ p2,p2=we.heap.size:=⟨_,rfl⟩
 rw[← yR]at hi ⊢;have vo:Hid (w.heap.size+3≤p2):=by show _≤_;rw[yR];exact Hv.out
 have Eb:=hid (And.intro (Gk.out.1.later hb) (And.intro (Gk.out.2.later hb) hi));have JX:=hid (aa tz.out hb);have JH:=hid (Le.out.later hb);have zd:=hid (xa.out.1.later hb);have c0:=(hb.cell (p:=⟨w.heap.size+2,0,none⟩) xa.out.1.lt).trans xa.out.2.1;have c1:=(hb.cell (p:=⟨w.heap.size+2,1,none⟩) xa.out.1.lt).trans xa.out.2.2;clear hi hb yR yz y0 y1 y2 xc tz xa Hv Gk;have ij:=zd.out.frozen;have hz:=zd.out.lt;obtain⟨z2,e2⟩:=zd.out.cell 2 (by omega);obtain⟨wg,vC⟩:∃ wg,wg=wf.setCell ⟨w.heap.size+2,2,none⟩ (.slice (some ⟨p2,0,none⟩) L.teams.length L.teams.length):=⟨_,rfl⟩
 have DW:Hid (Bel w wg):=by show Below _ _ _;rw[vC];exact JX.out.setCell (p:=⟨w.heap.size+2,2,none⟩) (by show w.heap.size≤w.heap.size+2;omega) _
 have pq:Hid (ai wg (w.heap.size+1) 40 3):=by show ai _ _ _ _;rw[vC];exact JH.out.bk (by omega) _ _
 have EI:Hid (bh wg p0 L.shapes∧dv wg p1 L.mends∧eB wg p2 L.teams):=by show _∧_∧_;rw[vC];exact⟨Eb.out.1.sc (by have:=pC.out;omega) _ _,Eb.out.2.1.sc (by have:=zg.out;omega) _ _,Eb.out.2.2.sc (by have:=vo.out;omega) _ _⟩
 have d0:wg.cell? ⟨w.heap.size+2,0,none⟩=some (.slice (some ⟨p0,0,none⟩) L.shapes.length L.shapes.length):=by rw[vC];exact(aF _ _ _ _ _ _ (by omega)).trans c0
 have d1:wg.cell? ⟨w.heap.size+2,1,none⟩=some (.slice (some ⟨p1,0,none⟩) L.mends.length L.mends.length):=by rw[vC];exact(aF _ _ _ _ _ _ (by omega)).trans c1
 have d2:wg.cell? ⟨w.heap.size+2,2,none⟩=some (.slice (some ⟨p2,0,none⟩) L.teams.length L.teams.length):=by rw[vC];exact eL zd.out 2 (by omega) _
 have gz:w.heap.size+2<wg.heap.size:=by rw[vC,bg];exact hz
 go_upto_region 5 with fail
 rw[← vC];clear vC ij hz e2 c0 c1 JX JH Eb zd;have ij:=pq.out.frozen;have hz:=pq.out.lt;obtain⟨z0,e0⟩:=pq.out.cell 0 (by omega);obtain⟨z1,e1⟩:=pq.out.cell 1 (by omega);obtain⟨z2,e2⟩:=pq.out.cell 2 (by omega);go_wp2;have t0:(((wg.setCell ⟨w.heap.size+1,0,none⟩ (.slice (some ⟨p0,0,none⟩) L.shapes.length L.shapes.length)).setCell ⟨w.heap.size+1,1,none⟩ (.slice (some ⟨p1,0,none⟩) L.mends.length L.mends.length)).setCell ⟨w.heap.size+1,2,none⟩ (.slice (some ⟨p2,0,none⟩) L.teams.length L.teams.length)).cell? ⟨w.heap.size+1,0,none⟩=some (.slice (some ⟨p0,0,none⟩) L.shapes.length L.shapes.length):=by
  rw[aF _ _ _ _ _ _ (by omega),aF _ _ _ _ _ _ (by omega)];exact eL pq.out 0 (by omega) _
 have t1:(((wg.setCell ⟨w.heap.size+1,0,none⟩ (.slice (some ⟨p0,0,none⟩) L.shapes.length L.shapes.length)).setCell ⟨w.heap.size+1,1,none⟩ (.slice (some ⟨p1,0,none⟩) L.mends.length L.mends.length)).setCell ⟨w.heap.size+1,2,none⟩ (.slice (some ⟨p2,0,none⟩) L.teams.length L.teams.length)).cell? ⟨w.heap.size+1,1,none⟩=some (.slice (some ⟨p1,0,none⟩) L.mends.length L.mends.length):=by
  rw[aF _ _ _ _ _ _ (by omega)];exact eL (pq.out.setCell 0 _) 1 (by omega) _
 have t2:(((wg.setCell ⟨w.heap.size+1,0,none⟩ (.slice (some ⟨p0,0,none⟩) L.shapes.length L.shapes.length)).setCell ⟨w.heap.size+1,1,none⟩ (.slice (some ⟨p1,0,none⟩) L.mends.length L.mends.length)).setCell ⟨w.heap.size+1,2,none⟩ (.slice (some ⟨p2,0,none⟩) L.teams.length L.teams.length)).cell? ⟨w.heap.size+1,2,none⟩=some (.slice (some ⟨p2,0,none⟩) L.teams.length L.teams.length):=eL ((pq.out.setCell 0 _).setCell 1 _) 2 (by omega) _;refine bodyPost_ret (v:=.agg #[.slice (some ⟨p0,0,none⟩) L.shapes.length L.shapes.length,.slice (some ⟨p1,0,none⟩) L.mends.length L.mends.length,.slice (some ⟨p2,0,none⟩) L.teams.length L.teams.length]) (by simp[results,Tryz.results8,go_sem,t0,t1,t2]) rfl ⟨⟨p0,p1,p2,rfl,⟨((EI.out.1.sc (by have:=pC.out;omega) _ _).sc (by have:=pC.out;omega) _ _).sc (by have:=pC.out;omega) _ _,((EI.out.2.1.sc (by have:=zg.out;omega) _ _).sc (by have:=zg.out;omega) _ _).sc (by have:=zg.out;omega) _ _,((EI.out.2.2.sc (by have:=vo.out;omega) _ _).sc (by have:=vo.out;omega) _ _).sc (by have:=vo.out;omega) _ _⟩,by have:=pC.out;omega,by have:=zg.out;omega,by have:=vo.out;omega⟩, ?_⟩;exact((DW.out.setCell (p:=⟨w.heap.size+1,0,none⟩) (Nat.le_succ _) _).setCell (p:=⟨w.heap.size+1,1,none⟩) (Nat.le_succ _) _).setCell (p:=⟨w.heap.size+1,2,none⟩) (Nat.le_succ _) _
theorem IY (L:Lw) (b0 b1 b2 q0 q1 q2:Nat) (w:World) (h:fT w b0 b1 b2 L) (h':fT w q0 q1 q2 L):
  Calls Tryz.prog 11 #[.agg #[.slice (some ⟨b0,0,none⟩) L.shapes.length L.shapes.length,.slice (some ⟨b1,0,none⟩) L.mends.length L.mends.length,.slice (some ⟨b2,0,none⟩) L.teams.length L.teams.length],.agg #[.slice (some ⟨q0,0,none⟩) L.shapes.length L.shapes.length,.slice (some ⟨q1,0,none⟩) L.mends.length L.mends.length,.slice (some ⟨q2,0,none⟩) L.teams.length L.teams.length]] w fun e w'=>e=.returned (.bool true)∧Bel w w':=by
 have HH:=hid (And.intro h h');clear h h';obtain⟨wa,ch⟩:∃ wa,wa=(w.alloc (.cells #[.slice (some ⟨b0,0,none⟩) L.shapes.length L.shapes.length,.slice (some ⟨b1,0,none⟩) L.mends.length L.mends.length,.slice (some ⟨b2,0,none⟩) L.teams.length L.teams.length] 40)).alloc (.cells #[.slice (some ⟨q0,0,none⟩) L.shapes.length L.shapes.length,.slice (some ⟨q1,0,none⟩) L.mends.length L.mends.length,.slice (some ⟨q2,0,none⟩) L.teams.length L.teams.length] 40):=⟨_,rfl⟩
 have cz:Hid (Bel w wa):=by show Below _ _ _;rw[ch];exact ab (ab br _) _
 have eZ:Hid (bC wa w.heap.size (.slice (some ⟨b0,0,none⟩) L.shapes.length L.shapes.length) (.slice (some ⟨b1,0,none⟩) L.mends.length L.mends.length) (.slice (some ⟨b2,0,none⟩) L.teams.length L.teams.length)):=by show bC _ _ _ _ _;rw[ch];exact(bC.new w _ _ _ _).cy _
 have MZ:Hid (bC wa (w.heap.size+1) (.slice (some ⟨q0,0,none⟩) L.shapes.length L.shapes.length) (.slice (some ⟨q1,0,none⟩) L.mends.length L.mends.length) (.slice (some ⟨q2,0,none⟩) L.teams.length L.teams.length)):=by
  show bC _ _ _ _ _;rw[ch];have:=bC.new (w.alloc (.cells #[.slice (some ⟨b0,0,none⟩) L.shapes.length L.shapes.length,.slice (some ⟨b1,0,none⟩) L.mends.length L.mends.length,.slice (some ⟨b2,0,none⟩) L.teams.length L.teams.length] 40)) (.slice (some ⟨q0,0,none⟩) L.shapes.length L.shapes.length) (.slice (some ⟨q1,0,none⟩) L.mends.length L.mends.length) (.slice (some ⟨q2,0,none⟩) L.teams.length L.teams.length) 40;simpa using this
 obtain⟨yz,y0,y1,y2⟩:=eZ.out;obtain⟨xz,x0,x1,x2⟩:=MZ.out;go_enter Tryz.func11,Tryz.ntmps11
 go_upto_region 1 with fail
 rw[← ch];clear ch;have HI:=(HH.out.1.later cz.out).s;have HJ:=(HH.out.2.later cz.out).s;go_wp2_with fail
 refine(Ay b0 q0 L.shapes wa HI.len HI.small HI.lt HJ.lt HI.at_ HJ.at_).mono ?_;rintro e wb ⟨rfl,hb⟩;have gv:=hid (aa cz.out hb);have ik:=eZ.out.later hb;have HYb:=MZ.out.later hb;clear hb yz y0 y1 y2 xz x0 x1 x2 eZ MZ cz HI HJ;have HX:=hid (And.intro ik HYb);obtain⟨yz,y0,y1,y2⟩:=ik;obtain⟨xz,x0,x1,x2⟩:=HYb;go_wp2_with fail
 refine(Dc b1 q1 L.mends wb (HH.out.1.later gv.out).m (HH.out.2.later gv.out).m).mono ?_;rintro e wc ⟨rfl,hb⟩;have jE:=hid (aa gv.out hb);have lN:=HX.out.1.later hb;have HYc:=HX.out.2.later hb;clear hb yz y0 y1 y2 xz x0 x1 x2 HX gv;obtain⟨yz,y0,y1,y2⟩:=lN;obtain⟨xz,x0,x1,x2⟩:=HYc;go_wp2_with fail
 refine(CW b2 q2 L.teams wc (HH.out.1.later jE.out).t (HH.out.2.later jE.out).t).mono ?_;rintro e wd ⟨rfl,hb⟩;have lI:=hid (aa jE.out hb);clear hb yz y0 y1 y2 xz x0 x1 x2;go_wp2;go_ret;exact⟨rfl,lI.out⟩
end Go.Proofs.YtbiokpmdghmgcaaGreat
