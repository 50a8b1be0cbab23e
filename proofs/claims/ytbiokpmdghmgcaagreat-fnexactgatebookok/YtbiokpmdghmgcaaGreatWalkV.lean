import Derived.Test.YtbiokpmdghmgcaaGreatWalkT
import Derived.Test.YtbiokpmdghmgcaaGreatWalkP
namespace Go.Proofs.YtbiokpmdghmgcaaGreat
set_option maxHeartbeats 40000000
open Go.RowKit
theorem pk (s:ByteArray) (w:World) (h1:1≤s.size) (h7:s.size≤7) (hl:Pl.lead s=false):
  Calls Tryz.prog 166 #[.string s] w fun e w'=>e=.returned (.int .i64 (Pl.g8 s))∧w=w':=by
 have hb:(decide ((1:Int)≤(s.size:Int))&&decide ((s.size:Int)≤7))=true:=by simp;omega
 have HN:=hid hl;rw[Pl.na s (by omega),Pl.lQ]at hl;have HL:=hid hl;clear hl;by_cases h2:1<s.size
 all_goals
  try have h0:((s[0].toNat:Int)==48)=false:=by simpa [h2]using HL.out
  go_enter Tryz.func166,Tryz.ntmps166
  go_wp2_with (go_at_call 25;refine(bb _ _ _ _).mono ?_;rintro e w' ⟨rfl,rfl⟩)
  go_loop [3,4] (fun n i=>∃ k:Nat,k≤s.size∧i=.int .i64 k∧n=.int .i64 (Pl.cM (s.data.toList.take k))∧(s.data.toList.take k).all Pl.digit=true) (fun _ i=>s.size - (intOf i).toNat)
  case atStart=>exact⟨0,nz,rfl,rfl,rfl⟩
  case round=>
   obtain⟨k,hk,rfl,rfl,av⟩:=hrel;have E9:=Pl.gW s k hk (by omega) av;obtain⟨b1,b2⟩:=E9;have HA:=hid av;clear av;by_cases aw:k<s.size
   ·have HS:=hid (Pl.j6 s k aw);by_cases hd:48≤(s[k].toNat:Int)∧(s[k].toNat:Int)≤57
    ·obtain⟨d1,d2⟩:=hd;go_wp2;go_round
     case rel=>exact⟨k+1,by omega,by go_num,by rw[HS.out];go_num,by rw[Pl.gH _ _ _ aw,HA.out];simp[Pl.digit];omega⟩
     case measure=>simp[intOf];omega
    ·have HF:Hid (Pl.g8 s= -1):=by
      show Pl.g8 s= -1;have:s.data.toList.all Pl.digit=false:=Pl.all_false _ s k aw (by rw[Bool.eq_false_iff];simp[Pl.digit];omega);simp[Pl.g8,Pl.du,this]
     by_cases hd1:48≤(s[k].toNat:Int)
     all_goals
      go_wp2;go_ret;exact⟨Pl.aS HF.out.symm,rfl⟩
   ·have HF:Hid (Pl.g8 s=Pl.cM (s.data.toList.take k)):=by
     show Pl.g8 s=Pl.cM (s.data.toList.take k);have e:s.data.toList.take k=s.data.toList:=List.take_of_length_le (by simp;omega);have ha:=HA.out;rw[e]at ha ⊢;simp[Pl.g8,Pl.du,ha,HN.out];omega
    go_wp2;go_ret;exact⟨Pl.aS HF.out.symm,rfl⟩
theorem jy (s:ByteArray) (w:World) (hs:s.size≤maxLen):
  Calls Tryz.prog 166 #[.string s] w fun e w'=>e=.returned (.int .i64 (Pl.g8 s))∧w=w':=by
 unfold maxLen at hs;by_cases bC:1≤s.size∧s.size≤7
 ·obtain⟨h1,h7⟩:=bC;cases hl:Pl.lead s
  ·exact pk s w h1 h7 hl
  ·have HF:Hid (Pl.g8 s= -1):=by show Pl.g8 s= -1;simp[Pl.g8,Pl.du,hl]
   have hb:(decide ((1:Int)≤(s.size:Int))&&decide ((s.size:Int)≤7))=true:=by simp;omega
   rw[Pl.na s (by omega),Pl.lQ]at hl;simp only[Bool.and_eq_true,decide_eq_true_eq]at hl;obtain⟨h2,h0⟩:=hl;have h0':((s[0].toNat:Int)==48)=true:=h0;clear h0;go_enter Tryz.func166,Tryz.ntmps166
   go_wp2_with (go_at_call 25;refine(bb _ _ _ _).mono ?_;rintro e w' ⟨rfl,rfl⟩)
   go_ret;exact⟨Pl.aS HF.out.symm,rfl⟩
 ·have HF:Hid (Pl.g8 s= -1):=by
   show Pl.g8 s= -1;have:(decide (1≤s.size)&&decide (s.size≤7))=false:=by
    rw[Bool.eq_false_iff];simp;omega
   simp[Pl.g8,Pl.du,this]
  have hb:(decide ((1:Int)≤(s.size:Int))&&decide ((s.size:Int)≤7))=false:=by
   rw[Bool.eq_false_iff];simp;omega
  clear bC;go_enter Tryz.func166,Tryz.ntmps166
  go_wp2_with (go_at_call 25;refine(bb _ _ _ _).mono ?_;rintro e w' ⟨rfl,rfl⟩)
  go_ret;exact⟨Pl.aS HF.out.symm,rfl⟩
theorem sh (s:ByteArray) (h:Pl.du s=true):0≤Pl.cM s.data.toList∧Pl.cM s.data.toList≤9999999:=by
 simp only[Pl.du,Bool.and_eq_true,decide_eq_true_eq]at h;have e:s.data.toList.take s.size=s.data.toList:=List.take_of_length_le (by simp);have:=Pl.gW s s.size nr (by omega) (by rw[e];exact h.2);rw[e]at this;exact this
theorem uu (nm:ByteArray) (least most:Int) (vs:Value) (to:ByteArray) (role:Int) (must fixed:Bool) (de we v:ByteArray) (ss:List ByteArray) (w:World) (hv:v.size≤maxLen):
  Calls Tryz.prog 120 #[.agg #[.string nm,.int .i64 1,.int .i64 least,.int .i64 most,vs,.string to,.int .i64 role,.bool must,.bool fixed,.string de,.string we],.string v] w
   fun e w'=>e=.returned (.bool (Pl.fits 1 least most ss v))∧Bel w w':=by
 cases hd:Pl.du v
 ·have HF:Hid (Pl.fits 1 least most ss v=false):=by show Pl.fits 1 least most ss v=false;simp[Pl.fits,hd]
  have HN:Hid (Pl.g8 v= -1):=by show Pl.g8 v= -1;simp[Pl.g8,hd]
  clear hd;go_enter Tryz.func120,Tryz.ntmps120
  go_wp2_with fail
  refine(jy _ _ hv).mono ?_;rintro e w' ⟨rfl,rfl⟩;rw[HN.out];go_wp2;go_ret;exact⟨Pl.ae HF.out.symm,br.alloc nr _⟩
 ·have HF:Hid (Pl.fits 1 least most ss v=(decide (least≤Pl.cM v.data.toList)&&decide (Pl.cM v.data.toList≤most))):=by
   show Pl.fits 1 least most ss v=_;simp[Pl.fits,hd]
  have HN:Hid (Pl.g8 v=Pl.cM v.data.toList):=by show Pl.g8 v=_;simp[Pl.g8,hd]
  have hn:=(sh v hd).1;clear hd;go_enter Tryz.func120,Tryz.ntmps120
  go_wp2_with fail
  refine(jy _ _ hv).mono ?_;rintro e w' ⟨rfl,rfl⟩;rw[HN.out];go_wp2_with (go_at_call 25;refine(bb _ _ _ _).mono ?_;rintro e w' ⟨rfl,rfl⟩)
  go_ret;exact⟨Pl.ae HF.out.symm,br.alloc nr _⟩
theorem ug (nm:ByteArray) (least most:Int) (b off cap:Nat) (to:ByteArray) (role:Int) (must fixed:Bool) (de we v:ByteArray) (ss:List ByteArray) (w:World)
  (hb:b<w.heap.size) (hl:ss.length≤maxLen) (hc:∀ i,i<ss.length→w.cell? ⟨b,off+i,none⟩=some (.string (ss.getD i ByteArray.empty))):
  Calls Tryz.prog 120 #[.agg #[.string nm,.int .i64 2,.int .i64 least,.int .i64 most,.slice (some ⟨b,off,none⟩) ss.length cap,.string to,.int .i64 role,.bool must,.bool fixed,.string de,.string we],.string v] w
   fun e w'=>e=.returned (.bool (Pl.fits 2 least most ss v))∧Bel w w':=by
 have HX:Hid (∀ o,Calls Tryz.prog 164 #[.slice (some ⟨b,off,none⟩) ss.length cap,.string v] (w.alloc o) fun e w'=>e=.returned (.bool (Pl.has ss v))∧(w.alloc o)=w'):=by
  intro o;refine pW b off cap ss v _ hl fun i hi=> ?_;rw[← hc i hi];exact(br.alloc nr o:Bel w _).cell (p:=⟨b,off+i,none⟩) hb
 clear hc;by_cases h1:1≤v.size
 ·have HF:Hid (Pl.fits 2 least most ss v=Pl.has ss v):=by show Pl.fits 2 least most ss v=_;simp[Pl.fits,h1]
  have he:=Pl.fI v h1;go_enter Tryz.func120,Tryz.ntmps120
  go_wp2_with fail
  refine(HX.out _).mono ?_;rintro e w' ⟨rfl,rfl⟩;go_wp2;go_ret;exact⟨Pl.ae HF.out.symm,br.alloc nr _⟩
 ·have HF:Hid (Pl.fits 2 least most ss v=false):=by show Pl.fits 2 least most ss v=_;simp[Pl.fits,h1]
  have he:=Pl.gn v h1;go_enter Tryz.func120,Tryz.ntmps120
  go_wp2;go_ret;exact⟨Pl.ae HF.out.symm,br.alloc nr _⟩
theorem tH (nm:ByteArray) (least most:Int) (vs:Value) (to:ByteArray) (role:Int) (must fixed:Bool) (de we v:ByteArray) (ss:List ByteArray) (w:World) (hv:v.size≤maxLen):
  Calls Tryz.prog 120 #[.agg #[.string nm,.int .i64 3,.int .i64 least,.int .i64 most,vs,.string to,.int .i64 role,.bool must,.bool fixed,.string de,.string we],.string v] w
   fun e w'=>e=.returned (.bool (Pl.fits 3 least most ss v))∧Bel w w':=by
 unfold maxLen at hv;go_enter Tryz.func120,Tryz.ntmps120
 go_wp2;go_loop [6] (fun i=>∃ k:Nat,k≤v.size∧i=.int .i64 k∧(v.data.toList.take k).all Pl.eD=true) (fun i=>v.size - (intOf i).toNat)
 case atStart=>exact⟨0,nz,rfl,rfl⟩
 case round=>
  obtain⟨k,hk,rfl,av⟩:=hrel;have HA:=hid av;clear av;by_cases aw:k<v.size
  ·have hby0:(0:Int)≤(v[k].toNat:Int):=by omega
   have hby:(v[k].toNat:Int)≤255:=by have:=v[k].toNat_lt;omega
   by_cases hd:33≤(v[k].toNat:Int)∧(v[k].toNat:Int)≤126
   ·have hb:(decide ((33:Int)≤(v[k].toNat:Int))&&decide ((v[k].toNat:Int)≤126))=true:=by simp;omega
    have HT:Hid (Pl.eD v[k]=true):=by show Pl.eD v[k]=true;simp[Pl.eD];omega
    clear hd;go_wp2_with (go_at_call 25;refine(bb _ _ _ _).mono ?_;rintro e w' ⟨rfl,rfl⟩)
    go_round
    case rel=>exact⟨k+1,by omega,by go_num,by rw[Pl.gH _ _ _ aw,HA.out,HT.out];rfl⟩
    case measure=>simp[intOf];omega
   ·have hb:(decide ((33:Int)≤(v[k].toNat:Int))&&decide ((v[k].toNat:Int)≤126))=false:=by
     rw[Bool.eq_false_iff];simp;omega
    have HF:Hid (Pl.fits 3 least most ss v=false):=by
     show Pl.fits 3 least most ss v=false;have:Pl.eE v=false:=Pl.all_false _ v k aw (by rw[Bool.eq_false_iff];simp[Pl.eD];omega);simp[Pl.fits,this]
    clear hd;go_wp2_with (go_at_call 25;refine(bb _ _ _ _).mono ?_;rintro e w' ⟨rfl,rfl⟩)
    go_ret;exact⟨Pl.ae HF.out.symm,br.alloc nr _⟩
  ·have HT:Hid (Pl.eE v=true):=by
    show Pl.eE v=true;unfold Pl.eE;rw[← Pl.jj Pl.eD v k (by omega)];exact HA.out
   by_cases h1:1≤v.size
   ·have HF:Hid (Pl.fits 3 least most ss v=(decide (least≤(v.size:Int))&&decide ((v.size:Int)≤most))):=by
     show Pl.fits 3 least most ss v=_;simp[Pl.fits,HT.out,h1]
    have he:=Pl.fI v h1;go_wp2_with (go_at_call 25;refine(bb _ _ _ _).mono ?_;rintro e w' ⟨rfl,rfl⟩)
    go_ret;exact⟨Pl.ae HF.out.symm,br.alloc nr _⟩
   ·have HF:Hid (Pl.fits 3 least most ss v=false):=by show Pl.fits 3 least most ss v=_;simp[Pl.fits,h1]
    have he:=Pl.gn v h1;go_wp2;go_ret;exact⟨Pl.ae HF.out.symm,br.alloc nr _⟩
theorem tq (nm:ByteArray) (least most:Int) (vs:Value) (to:ByteArray) (role:Int) (must fixed:Bool) (de we v:ByteArray) (ss:List ByteArray) (w:World) (hv:v.size≤maxLen):
  Calls Tryz.prog 120 #[.agg #[.string nm,.int .i64 4,.int .i64 least,.int .i64 most,vs,.string to,.int .i64 role,.bool must,.bool fixed,.string de,.string we],.string v] w
   fun e w'=>e=.returned (.bool (Pl.fits 4 least most ss v))∧Bel w w':=by
 have HF:Hid (Pl.fits 4 least most ss v=Pl.aq v):=by show Pl.fits 4 least most ss v=_;simp[Pl.fits]
 go_enter Tryz.func120,Tryz.ntmps120
 go_wp2_with (go_at_call 68;refine(aH _ _ hv).mono ?_;rintro e w' ⟨rfl,rfl⟩)
 go_ret;exact⟨Pl.ae HF.out.symm,br.alloc nr _⟩
theorem tT (nm:ByteArray) (kind least most:Int) (vs:Value) (to:ByteArray) (role:Int) (must fixed:Bool) (de we v:ByteArray) (ss:List ByteArray) (w:World)
  (h1:(kind==1)=false) (h2:(kind==2)=false) (h3:(kind==3)=false) (h4:(kind==4)=false):
  Calls Tryz.prog 120 #[.agg #[.string nm,.int .i64 kind,.int .i64 least,.int .i64 most,vs,.string to,.int .i64 role,.bool must,.bool fixed,.string de,.string we],.string v] w
   fun e w'=>e=.returned (.bool (Pl.fits kind least most ss v))∧Bel w w':=by
 have HF:Hid (Pl.fits kind least most ss v=false):=by
  show Pl.fits kind least most ss v=_;simp only[beq_eq_false_iff_ne,ne_eq]at h1 h2 h3 h4;simp[Pl.fits,h1,h2,h3,h4]
 go_enter Tryz.func120,Tryz.ntmps120
 go_wp2;go_ret;exact⟨Pl.ae HF.out.symm,br.alloc nr _⟩
theorem eL (nm:ByteArray) (kind least most:Int) (b off cap:Nat) (to:ByteArray) (role:Int) (must fixed:Bool) (de we v:ByteArray) (ss:List ByteArray) (w:World)
  (hv:v.size≤maxLen) (hb:b<w.heap.size) (hl:ss.length≤maxLen) (hc:∀ i,i<ss.length→w.cell? ⟨b,off+i,none⟩=some (.string (ss.getD i ByteArray.empty))):
  Calls Tryz.prog 120 #[.agg #[.string nm,.int .i64 kind,.int .i64 least,.int .i64 most,.slice (some ⟨b,off,none⟩) ss.length cap,.string to,.int .i64 role,.bool must,.bool fixed,.string de,.string we],.string v] w
   fun e w'=>e=.returned (.bool (Pl.fits kind least most ss v))∧Bel w w':=by
 by_cases h1:kind=1
 ·subst h1;exact uu nm least most _ to role must fixed de we v ss w hv
 by_cases h2:kind=2
 ·subst h2;exact ug nm least most b off cap to role must fixed de we v ss w hb hl hc
 by_cases h3:kind=3
 ·subst h3;exact tH nm least most _ to role must fixed de we v ss w hv
 by_cases h4:kind=4
 ·subst h4;exact tq nm least most _ to role must fixed de we v ss w hv
 exact tT nm kind least most _ to role must fixed de we v ss w (by simp[h1]) (by simp[h2]) (by simp[h3]) (by simp[h4])
end Go.Proofs.YtbiokpmdghmgcaaGreat
namespace Go.Proofs.YtbiokpmdghmgcaaGreat
set_option maxHeartbeats 40000000
open Go.RowKit Go.Deep
theorem uz (f:Fld) (b:Nat) (v:Value) (ss:List Shp) (w:World) (h1:(f.kind==1)=false) (h2:(f.kind==2)=false) (h3:(f.kind==3)=false) (h4:(f.kind==4)=false):
  Calls Tryz.prog 196 #[v,.agg #[.string f.nm,.int .i64 f.kind,.int .i64 f.least,.int .i64 f.most,.slice (some ⟨b,0,none⟩) f.words.length f.words.length,.string f.to,.int .i64 f.role,.bool f.must,.bool f.fixed,.string f.de,.string f.we]] w fun e w'=>e=.returned (.bool (ay ss f))∧Bel w w':=by
 have HF:Hid (ay ss f=false):=by
  show ay ss f=_;simp only[beq_eq_false_iff_ne,ne_eq]at h1 h2 h3 h4;have:isKind f.kind=false:=by rw[Bool.eq_false_iff];simp[isKind];omega
  simp[ay,this]
 have HX:Hid (∀ W,Calls Tryz.prog 197 #[.agg #[.string f.nm,.int .i64 f.kind,.int .i64 f.least,.int .i64 f.most,.slice (some ⟨b,0,none⟩) f.words.length f.words.length,.string f.to,.int .i64 f.role,.bool f.must,.bool f.fixed,.string f.de,.string f.we]] W fun e w'=>e=.returned (.tuple #[.nilIface,.bool false])∧Bel W w'):=fun W=>rH f.nm f.kind f.least f.most _ f.to f.role f.must f.fixed f.de f.we W h1 h2 h3 h4;clear h1 h2 h3 h4;go_enter Tryz.func196,Tryz.ntmps196
 go_wp2_with fail
 refine(HX.out _).mono ?_;rintro e w1 ⟨rfl,bj⟩;have u7:=aa (ab br _) bj;clear bj;go_wp2;go_ret;exact⟨Pl.ae HF.out.symm,u7⟩
theorem zf (f:Fld) (b B:Nat) (ss:List Shp) (w:World) (h:bd w B ss) (hp:eC w b f):
  Calls Tryz.prog 196 #[.slice (some ⟨B,0,none⟩) ss.length ss.length,.agg #[.string f.nm,.int .i64 f.kind,.int .i64 f.least,.int .i64 f.most,.slice (some ⟨b,0,none⟩) f.words.length f.words.length,.string f.to,.int .i64 f.role,.bool f.must,.bool f.fixed,.string f.de,.string f.we]] w fun e w'=>e=.returned (.bool (ay ss f))∧Bel w w':=by
 by_cases h1:f.kind=1
 ·have:=uk f b B ss w h1 h hp;rw[← h1]at this;exact this
 by_cases h2:f.kind=2
 ·have:=ua f b B ss w h2 h hp;rw[← h2]at this;exact this
 by_cases h3:f.kind=3
 ·have:=tY f b B ss w h3 h hp;rw[← h3]at this;exact this
 by_cases h4:f.kind=4
 ·have:=tJ f b B ss w h4 h hp;rw[← h4]at this;exact this
 exact uz f b _ ss w (by simp[h1]) (by simp[h2]) (by simp[h3]) (by simp[h4])
theorem um (f:Fld) (b B:Nat) (ss:List Shp) (w:World) (hk:f.kind=1) (h:bd w B ss) (hp:eC w b f):
  Calls Tryz.prog 161 #[.slice (some ⟨B,0,none⟩) ss.length ss.length,.agg #[.string f.nm,.int .i64 1,.int .i64 f.least,.int .i64 f.most,.slice (some ⟨b,0,none⟩) f.words.length f.words.length,.string f.to,.int .i64 f.role,.bool f.must,.bool f.fixed,.string f.de,.string f.we]] w fun e w'=>e=.returned (.bool (Pl.aq f.nm&&ay ss f))∧Bel w w':=by
 have HP:=hid hp;have HL:=hid h;have HO:Hid (ay ss f=(bD f&&aC ss f&&gg f)):=by show ay ss f=_;simp[ay,isKind,hk]
 have ll:Hid (aC ss f=(decide (0≤f.least)&&decide (f.least≤f.most)&&decide (f.most≤1000000)&&(f.we.toList.isEmpty||Pl.aq f.we))):=by show aC ss f=_;simp[aC,hk,Pl.aE]
 have ea:=hid fun (W:World)=>zo f b W HP.out.small hk;have iF:Hid (∀ W,Bel w W→Calls Tryz.prog 120 #[.agg #[.string f.nm,.int .i64 1,.int .i64 f.least,.int .i64 f.most,.slice (some ⟨b,0,none⟩) f.words.length f.words.length,.string f.to,.int .i64 f.role,.bool f.must,.bool f.fixed,.string f.de,.string f.we],.string f.de] W fun e w'=>e=.returned (.bool (dA f f.de))∧Bel W w'):=by
  intro W hW;have Q:=HP.out.later hW;have e:dA f f.de=Pl.fits 1 f.least f.most f.words f.de:=by rw[dA,hk]
  rw[e];exact eL f.nm 1 f.least f.most b 0 f.words.length f.to f.role f.must f.fixed f.de f.we f.de f.words W Q.sized.2.2.1 Q.lt (by have:f.words.length≤1048576:=Q.small;unfold maxLen;omega) Q.cells
 clear hp h hk;cases hnm:Pl.aq f.nm
 ·have HN:=hid HP.out.sized.1;go_enter Tryz.func161,Tryz.ntmps161
  go_wp2_with (go_at_call 68;refine(aH _ _ HN.out).mono ?_;rintro e w' ⟨rfl,rfl⟩)
  go_ret;exact⟨rfl,ab br _⟩
 have HN:=hid HP.out.sized.1;obtain⟨R,hR⟩:∃ R,R=(true&&ay ss f):=⟨_,rfl⟩
 rw[← hR];have HR:Hid (R=ay ss f):=by rw[hR];rfl
 clear hR;go_enter Tryz.func161,Tryz.ntmps161
 go_wp2_with (go_at_call 68;refine(aH _ _ HN.out).mono ?_;rintro e w' ⟨rfl,rfl⟩)
 refine(ea.out _).mono ?_;rintro e w2 ⟨rfl,aA⟩;have bF:=aa (ab (Below.refl w.heap.size w) (.cells #[.string f.nm,.int .i64 1,.int .i64 f.least,.int .i64 f.most,.slice (some ⟨b,0,none⟩) f.words.length f.words.length,.string f.to,.int .i64 f.role,.bool f.must,.bool f.fixed,.string f.de,.string f.we] 122)) aA;have k2:∀ o,w2.cell? ⟨w.heap.size,o,none⟩=(w.alloc (.cells #[.string f.nm,.int .i64 1,.int .i64 f.least,.int .i64 f.most,.slice (some ⟨b,0,none⟩) f.words.length f.words.length,.string f.to,.int .i64 f.role,.bool f.must,.bool f.fixed,.string f.de,.string f.we] 122)).cell? ⟨w.heap.size,o,none⟩:=fun o=>aA.cell (p:=⟨w.heap.size,o,none⟩) (by simp);have z2:w.heap.size<w2.heap.size:=by have:=aA.size;simp at this;omega
 clear aA ea HN;cases hba:bD f
 ·have HF:Hid (R=false):=by show R=false;rw[HR.out,HO.out,hba];rfl
  go_wp2;go_ret;exact⟨Pl.ae HF.out.symm,bF⟩
 cases hem:f.de.toList.isEmpty
 ·cases dP:dA f f.de
  ·have HF:Hid (R=false):=by show R=false;rw[HR.out,HO.out];simp[gg,Pl.aE,hem,dP]
   go_wp2_with fail
   refine(iF.out _ bF).mono ?_;rintro e w3 ⟨rfl,aQ⟩;have eW:=aa bF aQ;go_wp2;go_ret;exact⟨Pl.ae HF.out.symm,eW⟩
  go_wp2_with fail
  refine(iF.out _ bF).mono ?_;rintro e w3 ⟨rfl,aQ⟩;have eW:=aa bF aQ;have k3:∀ o,w3.cell? ⟨w.heap.size,o,none⟩=(w.alloc (.cells #[.string f.nm,.int .i64 1,.int .i64 f.least,.int .i64 f.most,.slice (some ⟨b,0,none⟩) f.words.length f.words.length,.string f.to,.int .i64 f.role,.bool f.must,.bool f.fixed,.string f.de,.string f.we] 122)).cell? ⟨w.heap.size,o,none⟩:=fun o=>(aQ.cell (p:=⟨w.heap.size,o,none⟩) z2).trans (k2 o);have HF:Hid (R=aC ss f):=by show R=aC ss f;rw[HR.out,HO.out,hba];simp[gg,Pl.aE,hem,dP]
  clear aQ k2 bF z2 iF HO HR;have HQ:=hid ll.out;have HS:=hid HP.out.sized.2.2.2;clear HP HL ll;go_wp2_with (go_at_call 68;refine(aH _ _ HS.out).mono ?_;rintro e w' ⟨rfl,rfl⟩)
  all_goals go_ret
  all_goals refine⟨Pl.ae ?_,eW⟩
  all_goals rw[HF.out,HQ.out]
  all_goals clear HF HQ eW k3
  all_goals go_light
  all_goals first|(simp_all;done)|(simp_all;omega)|(rw[Bool.eq_iff_iff];simp_all;done)|(rw[Bool.eq_iff_iff];simp_all;omega)
 obtain⟨w3,rfl⟩:∃ w3,w3=w2:=⟨_,rfl⟩
 have eW:=bF;have k3:=k2;have HF:Hid (R=aC ss f):=by show R=aC ss f;rw[HR.out,HO.out,hba];simp[gg,Pl.aE,hem]
 clear k2 bF z2 iF HO HR;have HQ:=hid ll.out;have HS:=hid HP.out.sized.2.2.2;clear HP HL ll;go_wp2_with (go_at_call 68;refine(aH _ _ HS.out).mono ?_;rintro e w' ⟨rfl,rfl⟩)
 all_goals go_ret
 all_goals refine⟨Pl.ae ?_,eW⟩
 all_goals rw[HF.out,HQ.out]
 all_goals clear HF HQ eW k3
 all_goals go_light
 all_goals first|(simp_all;done)|(simp_all;omega)|(rw[Bool.eq_iff_iff];simp_all;done)|(rw[Bool.eq_iff_iff];simp_all;omega)
theorem tk (f:Fld) (b B:Nat) (ss:List Shp) (w:World) (hk:f.kind=2) (h:bd w B ss) (hp:eC w b f):
  Calls Tryz.prog 161 #[.slice (some ⟨B,0,none⟩) ss.length ss.length,.agg #[.string f.nm,.int .i64 2,.int .i64 f.least,.int .i64 f.most,.slice (some ⟨b,0,none⟩) f.words.length f.words.length,.string f.to,.int .i64 f.role,.bool f.must,.bool f.fixed,.string f.de,.string f.we]] w fun e w'=>e=.returned (.bool (Pl.aq f.nm&&ay ss f))∧Bel w w':=by
 have HP:=hid hp;have HL:=hid h;have HO:Hid (ay ss f=(bD f&&aC ss f&&gg f)):=by show ay ss f=_;simp[ay,isKind,hk]
 have ll:Hid (aC ss f=(decide (1≤f.words.length)&&decide (f.words.length≤6)&&Pl.asc f.words)):=by show aC ss f=_;simp[aC,hk]
 have ea:=hid fun (W:World)=>Am f b W HP.out.small hk;have iF:Hid (∀ W,Bel w W→Calls Tryz.prog 120 #[.agg #[.string f.nm,.int .i64 2,.int .i64 f.least,.int .i64 f.most,.slice (some ⟨b,0,none⟩) f.words.length f.words.length,.string f.to,.int .i64 f.role,.bool f.must,.bool f.fixed,.string f.de,.string f.we],.string f.de] W fun e w'=>e=.returned (.bool (dA f f.de))∧Bel W w'):=by
  intro W hW;have Q:=HP.out.later hW;have e:dA f f.de=Pl.fits 2 f.least f.most f.words f.de:=by rw[dA,hk]
  rw[e];exact eL f.nm 2 f.least f.most b 0 f.words.length f.to f.role f.must f.fixed f.de f.we f.de f.words W Q.sized.2.2.1 Q.lt (by have:f.words.length≤1048576:=Q.small;unfold maxLen;omega) Q.cells
 clear hp h hk;cases hnm:Pl.aq f.nm
 ·have HN:=hid HP.out.sized.1;go_enter Tryz.func161,Tryz.ntmps161
  go_wp2_with (go_at_call 68;refine(aH _ _ HN.out).mono ?_;rintro e w' ⟨rfl,rfl⟩)
  go_ret;exact⟨rfl,ab br _⟩
 have HN:=hid HP.out.sized.1;obtain⟨R,hR⟩:∃ R,R=(true&&ay ss f):=⟨_,rfl⟩
 rw[← hR];have HR:Hid (R=ay ss f):=by rw[hR];rfl
 clear hR;go_enter Tryz.func161,Tryz.ntmps161
 go_wp2_with (go_at_call 68;refine(aH _ _ HN.out).mono ?_;rintro e w' ⟨rfl,rfl⟩)
 refine(ea.out _).mono ?_;rintro e w2 ⟨rfl,aA⟩;have bF:=aa (ab (Below.refl w.heap.size w) (.cells #[.string f.nm,.int .i64 2,.int .i64 f.least,.int .i64 f.most,.slice (some ⟨b,0,none⟩) f.words.length f.words.length,.string f.to,.int .i64 f.role,.bool f.must,.bool f.fixed,.string f.de,.string f.we] 122)) aA;have k2:∀ o,w2.cell? ⟨w.heap.size,o,none⟩=(w.alloc (.cells #[.string f.nm,.int .i64 2,.int .i64 f.least,.int .i64 f.most,.slice (some ⟨b,0,none⟩) f.words.length f.words.length,.string f.to,.int .i64 f.role,.bool f.must,.bool f.fixed,.string f.de,.string f.we] 122)).cell? ⟨w.heap.size,o,none⟩:=fun o=>aA.cell (p:=⟨w.heap.size,o,none⟩) (by simp);have z2:w.heap.size<w2.heap.size:=by have:=aA.size;simp at this;omega
 clear aA ea HN;cases hba:bD f
 ·have HF:Hid (R=false):=by show R=false;rw[HR.out,HO.out,hba];rfl
  go_wp2;go_ret;exact⟨Pl.ae HF.out.symm,bF⟩
 cases hem:f.de.toList.isEmpty
 ·cases dP:dA f f.de
  ·have HF:Hid (R=false):=by show R=false;rw[HR.out,HO.out];simp[gg,Pl.aE,hem,dP]
   go_wp2_with fail
   refine(iF.out _ bF).mono ?_;rintro e w3 ⟨rfl,aQ⟩;have eW:=aa bF aQ;go_wp2;go_ret;exact⟨Pl.ae HF.out.symm,eW⟩
  go_wp2_with fail
  refine(iF.out _ bF).mono ?_;rintro e w3 ⟨rfl,aQ⟩;have eW:=aa bF aQ;have k3:∀ o,w3.cell? ⟨w.heap.size,o,none⟩=(w.alloc (.cells #[.string f.nm,.int .i64 2,.int .i64 f.least,.int .i64 f.most,.slice (some ⟨b,0,none⟩) f.words.length f.words.length,.string f.to,.int .i64 f.role,.bool f.must,.bool f.fixed,.string f.de,.string f.we] 122)).cell? ⟨w.heap.size,o,none⟩:=fun o=>(aQ.cell (p:=⟨w.heap.size,o,none⟩) z2).trans (k2 o);have HF:Hid (R=aC ss f):=by show R=aC ss f;rw[HR.out,HO.out,hba];simp[gg,Pl.aE,hem,dP]
  clear aQ k2 bF z2 iF HO HR;have HQ:Hid (aC ss f=(decide ((1:Int)≤(f.words.length:Int))&&decide ((f.words.length:Int)≤6)&&Pl.asc f.words)):=by
   show aC ss f=_;rw[ll.out,Bool.eq_iff_iff];simp;omega
  have HX:Hid (Calls Tryz.prog 119 #[.slice (some ⟨b,0,none⟩) f.words.length f.words.length] w3 fun e w'=>e=.returned (.bool (Pl.asc f.words))∧Bel w3 w'):=by
   have Q:=HP.out.later eW;exact mu b _ f.words w3 Q.small Q.lt Q.sizes Q.cells
  have xV:=HP.out.small;clear HP HL ll;cases bC:(decide ((1:Int)≤(f.words.length:Int))&&decide ((f.words.length:Int)≤6))
  ·have HG:Hid (aC ss f=false):=by show aC ss f=_;rw[HQ.out,bC];rfl
   go_wp2_with (go_at_call 25;refine(bb _ _ _ _).mono ?_;rintro e w' ⟨rfl,rfl⟩)
   go_ret;exact⟨Pl.ae (by rw[HF.out,HG.out]),eW⟩
  ·have HG:Hid (aC ss f=Pl.asc f.words):=by show aC ss f=_;rw[HQ.out,bC];rfl
   go_wp2_with (first|(go_at_call 25;refine(bb _ _ _ _).mono ?_;rintro e w' ⟨rfl,rfl⟩)|(go_at_call 119;refine HX.out.mono ?_;rintro e w4 ⟨rfl,cq⟩))
   go_ret;exact⟨Pl.ae (by rw[HF.out,HG.out]),aa eW cq⟩
 obtain⟨w3,rfl⟩:∃ w3,w3=w2:=⟨_,rfl⟩
 have eW:=bF;have k3:=k2;have HF:Hid (R=aC ss f):=by show R=aC ss f;rw[HR.out,HO.out,hba];simp[gg,Pl.aE,hem]
 clear k2 bF z2 iF HO HR;have HQ:Hid (aC ss f=(decide ((1:Int)≤(f.words.length:Int))&&decide ((f.words.length:Int)≤6)&&Pl.asc f.words)):=by
  show aC ss f=_;rw[ll.out,Bool.eq_iff_iff];simp;omega
 have HX:Hid (Calls Tryz.prog 119 #[.slice (some ⟨b,0,none⟩) f.words.length f.words.length] w3 fun e w'=>e=.returned (.bool (Pl.asc f.words))∧Bel w3 w'):=by
  have Q:=HP.out.later eW;exact mu b _ f.words w3 Q.small Q.lt Q.sizes Q.cells
 have xV:=HP.out.small;clear HP HL ll;cases bC:(decide ((1:Int)≤(f.words.length:Int))&&decide ((f.words.length:Int)≤6))
 ·have HG:Hid (aC ss f=false):=by show aC ss f=_;rw[HQ.out,bC];rfl
  go_wp2_with (go_at_call 25;refine(bb _ _ _ _).mono ?_;rintro e w' ⟨rfl,rfl⟩)
  go_ret;exact⟨Pl.ae (by rw[HF.out,HG.out]),eW⟩
 ·have HG:Hid (aC ss f=Pl.asc f.words):=by show aC ss f=_;rw[HQ.out,bC];rfl
  go_wp2_with (first|(go_at_call 25;refine(bb _ _ _ _).mono ?_;rintro e w' ⟨rfl,rfl⟩)|(go_at_call 119;refine HX.out.mono ?_;rintro e w4 ⟨rfl,cq⟩))
  go_ret;exact⟨Pl.ae (by rw[HF.out,HG.out]),aa eW cq⟩
theorem tz (f:Fld) (b B:Nat) (ss:List Shp) (w:World) (hk:f.kind=3) (h:bd w B ss) (hp:eC w b f):
  Calls Tryz.prog 161 #[.slice (some ⟨B,0,none⟩) ss.length ss.length,.agg #[.string f.nm,.int .i64 3,.int .i64 f.least,.int .i64 f.most,.slice (some ⟨b,0,none⟩) f.words.length f.words.length,.string f.to,.int .i64 f.role,.bool f.must,.bool f.fixed,.string f.de,.string f.we]] w fun e w'=>e=.returned (.bool (Pl.aq f.nm&&ay ss f))∧Bel w w':=by
 have HP:=hid hp;have HL:=hid h;have HO:Hid (ay ss f=(bD f&&aC ss f&&gg f)):=by show ay ss f=_;simp[ay,isKind,hk]
 have ll:Hid (aC ss f=(decide (1≤f.least)&&decide (f.least≤f.most)&&decide (f.most≤40))):=by show aC ss f=_;simp[aC,hk]
 have ea:=hid fun (W:World)=>yx f b W HP.out.small hk;have iF:Hid (∀ W,Bel w W→Calls Tryz.prog 120 #[.agg #[.string f.nm,.int .i64 3,.int .i64 f.least,.int .i64 f.most,.slice (some ⟨b,0,none⟩) f.words.length f.words.length,.string f.to,.int .i64 f.role,.bool f.must,.bool f.fixed,.string f.de,.string f.we],.string f.de] W fun e w'=>e=.returned (.bool (dA f f.de))∧Bel W w'):=by
  intro W hW;have Q:=HP.out.later hW;have e:dA f f.de=Pl.fits 3 f.least f.most f.words f.de:=by rw[dA,hk]
  rw[e];exact eL f.nm 3 f.least f.most b 0 f.words.length f.to f.role f.must f.fixed f.de f.we f.de f.words W Q.sized.2.2.1 Q.lt (by have:f.words.length≤1048576:=Q.small;unfold maxLen;omega) Q.cells
 clear hp h hk;cases hnm:Pl.aq f.nm
 ·have HN:=hid HP.out.sized.1;go_enter Tryz.func161,Tryz.ntmps161
  go_wp2_with (go_at_call 68;refine(aH _ _ HN.out).mono ?_;rintro e w' ⟨rfl,rfl⟩)
  go_ret;exact⟨rfl,ab br _⟩
 have HN:=hid HP.out.sized.1;obtain⟨R,hR⟩:∃ R,R=(true&&ay ss f):=⟨_,rfl⟩
 rw[← hR];have HR:Hid (R=ay ss f):=by rw[hR];rfl
 clear hR;go_enter Tryz.func161,Tryz.ntmps161
 go_wp2_with (go_at_call 68;refine(aH _ _ HN.out).mono ?_;rintro e w' ⟨rfl,rfl⟩)
 refine(ea.out _).mono ?_;rintro e w2 ⟨rfl,aA⟩;have bF:=aa (ab (Below.refl w.heap.size w) (.cells #[.string f.nm,.int .i64 3,.int .i64 f.least,.int .i64 f.most,.slice (some ⟨b,0,none⟩) f.words.length f.words.length,.string f.to,.int .i64 f.role,.bool f.must,.bool f.fixed,.string f.de,.string f.we] 122)) aA;have k2:∀ o,w2.cell? ⟨w.heap.size,o,none⟩=(w.alloc (.cells #[.string f.nm,.int .i64 3,.int .i64 f.least,.int .i64 f.most,.slice (some ⟨b,0,none⟩) f.words.length f.words.length,.string f.to,.int .i64 f.role,.bool f.must,.bool f.fixed,.string f.de,.string f.we] 122)).cell? ⟨w.heap.size,o,none⟩:=fun o=>aA.cell (p:=⟨w.heap.size,o,none⟩) (by simp);have z2:w.heap.size<w2.heap.size:=by have:=aA.size;simp at this;omega
 clear aA ea HN;cases hba:bD f
 ·have HF:Hid (R=false):=by show R=false;rw[HR.out,HO.out,hba];rfl
  go_wp2;go_ret;exact⟨Pl.ae HF.out.symm,bF⟩
 cases hem:f.de.toList.isEmpty
 ·cases dP:dA f f.de
  ·have HF:Hid (R=false):=by show R=false;rw[HR.out,HO.out];simp[gg,Pl.aE,hem,dP]
   go_wp2_with fail
   refine(iF.out _ bF).mono ?_;rintro e w3 ⟨rfl,aQ⟩;have eW:=aa bF aQ;go_wp2;go_ret;exact⟨Pl.ae HF.out.symm,eW⟩
  go_wp2_with fail
  refine(iF.out _ bF).mono ?_;rintro e w3 ⟨rfl,aQ⟩;have eW:=aa bF aQ;have k3:∀ o,w3.cell? ⟨w.heap.size,o,none⟩=(w.alloc (.cells #[.string f.nm,.int .i64 3,.int .i64 f.least,.int .i64 f.most,.slice (some ⟨b,0,none⟩) f.words.length f.words.length,.string f.to,.int .i64 f.role,.bool f.must,.bool f.fixed,.string f.de,.string f.we] 122)).cell? ⟨w.heap.size,o,none⟩:=fun o=>(aQ.cell (p:=⟨w.heap.size,o,none⟩) z2).trans (k2 o);have HF:Hid (R=aC ss f):=by show R=aC ss f;rw[HR.out,HO.out,hba];simp[gg,Pl.aE,hem,dP]
  clear aQ k2 bF z2 iF HO HR;have HQ:=hid ll.out;clear HP HL ll;go_wp2
  all_goals go_ret
  all_goals refine⟨Pl.ae ?_,eW⟩
  all_goals rw[HF.out,HQ.out]
  all_goals clear HF HQ eW k3
  all_goals go_light
  all_goals first|(simp_all;done)|(simp_all;omega)|(rw[Bool.eq_iff_iff];simp_all;done)|(rw[Bool.eq_iff_iff];simp_all;omega)
 obtain⟨w3,rfl⟩:∃ w3,w3=w2:=⟨_,rfl⟩
 have eW:=bF;have k3:=k2;have HF:Hid (R=aC ss f):=by show R=aC ss f;rw[HR.out,HO.out,hba];simp[gg,Pl.aE,hem]
 clear k2 bF z2 iF HO HR;have HQ:=hid ll.out;clear HP HL ll;go_wp2
 all_goals go_ret
 all_goals refine⟨Pl.ae ?_,eW⟩
 all_goals rw[HF.out,HQ.out]
 all_goals clear HF HQ eW k3
 all_goals go_light
 all_goals first|(simp_all;done)|(simp_all;omega)|(rw[Bool.eq_iff_iff];simp_all;done)|(rw[Bool.eq_iff_iff];simp_all;omega)
theorem uq (f:Fld) (b B:Nat) (ss:List Shp) (w:World) (hk:f.kind=4) (h:bd w B ss) (hp:eC w b f):
  Calls Tryz.prog 161 #[.slice (some ⟨B,0,none⟩) ss.length ss.length,.agg #[.string f.nm,.int .i64 4,.int .i64 f.least,.int .i64 f.most,.slice (some ⟨b,0,none⟩) f.words.length f.words.length,.string f.to,.int .i64 f.role,.bool f.must,.bool f.fixed,.string f.de,.string f.we]] w fun e w'=>e=.returned (.bool (Pl.aq f.nm&&ay ss f))∧Bel w w':=by
 have HP:=hid hp;have HL:=hid h;have HO:Hid (ay ss f=(bD f&&aC ss f&&gg f)):=by show ay ss f=_;simp[ay,isKind,hk]
 have ll:Hid (aC ss f=(aJ ss f.to&&(decide (1≤f.role)&&decide (f.role≤3)&&f.de.toList.isEmpty&&(!decide (f.role=2)|| !f.must)))):=by show aC ss f=_;simp[aC,hk,Pl.aE,Bool.and_assoc]
 have ea:=hid fun (W:World)=>Aw f b W HP.out.small hk;have iF:Hid (∀ W,Bel w W→Calls Tryz.prog 120 #[.agg #[.string f.nm,.int .i64 4,.int .i64 f.least,.int .i64 f.most,.slice (some ⟨b,0,none⟩) f.words.length f.words.length,.string f.to,.int .i64 f.role,.bool f.must,.bool f.fixed,.string f.de,.string f.we],.string f.de] W fun e w'=>e=.returned (.bool (dA f f.de))∧Bel W w'):=by
  intro W hW;have Q:=HP.out.later hW;have e:dA f f.de=Pl.fits 4 f.least f.most f.words f.de:=by rw[dA,hk]
  rw[e];exact eL f.nm 4 f.least f.most b 0 f.words.length f.to f.role f.must f.fixed f.de f.we f.de f.words W Q.sized.2.2.1 Q.lt (by have:f.words.length≤1048576:=Q.small;unfold maxLen;omega) Q.cells
 clear hp h hk;cases hnm:Pl.aq f.nm
 ·have HN:=hid HP.out.sized.1;go_enter Tryz.func161,Tryz.ntmps161
  go_wp2_with (go_at_call 68;refine(aH _ _ HN.out).mono ?_;rintro e w' ⟨rfl,rfl⟩)
  go_ret;exact⟨rfl,ab br _⟩
 have HN:=hid HP.out.sized.1;obtain⟨R,hR⟩:∃ R,R=(true&&ay ss f):=⟨_,rfl⟩
 rw[← hR];have HR:Hid (R=ay ss f):=by rw[hR];rfl
 clear hR;go_enter Tryz.func161,Tryz.ntmps161
 go_wp2_with (go_at_call 68;refine(aH _ _ HN.out).mono ?_;rintro e w' ⟨rfl,rfl⟩)
 refine(ea.out _).mono ?_;rintro e w2 ⟨rfl,aA⟩;have bF:=aa (ab (Below.refl w.heap.size w) (.cells #[.string f.nm,.int .i64 4,.int .i64 f.least,.int .i64 f.most,.slice (some ⟨b,0,none⟩) f.words.length f.words.length,.string f.to,.int .i64 f.role,.bool f.must,.bool f.fixed,.string f.de,.string f.we] 122)) aA;have k2:∀ o,w2.cell? ⟨w.heap.size,o,none⟩=(w.alloc (.cells #[.string f.nm,.int .i64 4,.int .i64 f.least,.int .i64 f.most,.slice (some ⟨b,0,none⟩) f.words.length f.words.length,.string f.to,.int .i64 f.role,.bool f.must,.bool f.fixed,.string f.de,.string f.we] 122)).cell? ⟨w.heap.size,o,none⟩:=fun o=>aA.cell (p:=⟨w.heap.size,o,none⟩) (by simp);have z2:w.heap.size<w2.heap.size:=by have:=aA.size;simp at this;omega
 clear aA ea HN;cases hba:bD f
 ·have HF:Hid (R=false):=by show R=false;rw[HR.out,HO.out,hba];rfl
  go_wp2;go_ret;exact⟨Pl.ae HF.out.symm,bF⟩
 cases hem:f.de.toList.isEmpty
 ·cases dP:dA f f.de
  ·have HF:Hid (R=false):=by show R=false;rw[HR.out,HO.out];simp[gg,Pl.aE,hem,dP]
   go_wp2_with fail
   refine(iF.out _ bF).mono ?_;rintro e w3 ⟨rfl,aQ⟩;have eW:=aa bF aQ;go_wp2;go_ret;exact⟨Pl.ae HF.out.symm,eW⟩
  go_wp2_with fail
  refine(iF.out _ bF).mono ?_;rintro e w3 ⟨rfl,aQ⟩;have eW:=aa bF aQ;have k3:∀ o,w3.cell? ⟨w.heap.size,o,none⟩=(w.alloc (.cells #[.string f.nm,.int .i64 4,.int .i64 f.least,.int .i64 f.most,.slice (some ⟨b,0,none⟩) f.words.length f.words.length,.string f.to,.int .i64 f.role,.bool f.must,.bool f.fixed,.string f.de,.string f.we] 122)).cell? ⟨w.heap.size,o,none⟩:=fun o=>(aQ.cell (p:=⟨w.heap.size,o,none⟩) z2).trans (k2 o);have HF:Hid (R=aC ss f):=by show R=aC ss f;rw[HR.out,HO.out,hba];simp[gg,Pl.aE,hem,dP]
  clear aQ k2 bF z2 iF HO HR;have HQ:=hid ll.out;obtain⟨r,hr⟩:∃ r:Int,r=(if aB ss f.to<ss.length then (aB ss f.to:Int) else -1):=⟨_,rfl⟩
  have HX:Hid (Calls Tryz.prog 124 #[.slice (some ⟨B,0,none⟩) ss.length ss.length,.string f.to] w3 fun e w'=>e=.returned (.int .i64 r)∧w3=w'):=by
   rw[hr];exact fQ B ss f.to w3 (HL.out.later eW)
  have hq:decide (0≤r)=aJ ss f.to:=by rw[hr,aJ];split<;>simp_all
  clear HP HL ll hr;cases hh:aJ ss f.to
  ·rw[hh]at hq;have Lf:r<0:=by simpa using hq
   have HG:Hid (aC ss f=false):=by show aC ss f=_;rw[HQ.out,hh];rfl
   clear hq hh;go_wp2_with fail
   refine HX.out.mono ?_;rintro e w4 ⟨rfl,rfl⟩;go_wp2;go_ret;exact⟨Pl.ae (by rw[HF.out,HG.out]),eW⟩
  ·rw[hh]at hq;have Lf:0≤r:=by simpa using hq
   have HG:Hid (aC ss f=((decide (1≤f.role)&&decide (f.role≤3))&&f.de.toList.isEmpty&&(!decide (f.role=2)|| !f.must))):=by show aC ss f=_;rw[HQ.out,hh];rfl
   clear hq hh HQ;cases bC:(decide (1≤f.role)&&decide (f.role≤3))
   ·go_wp2_with (first|(go_at_call 124;refine HX.out.mono ?_;rintro e w4 ⟨rfl,rfl⟩)|(go_at_call 25;refine(bb _ _ _ _).mono ?_;rintro e w' ⟨rfl,rfl⟩))
    go_ret;exact⟨Pl.ae (by rw[HF.out,HG.out,bC];rfl),eW⟩
   ·have Is:Hid (aC ss f=(f.de.toList.isEmpty&&(!decide (f.role=2)|| !f.must))):=by show aC ss f=_;rw[HG.out,bC];rfl
    clear HG;go_wp2_with (first|(go_at_call 124;refine HX.out.mono ?_;rintro e w4 ⟨rfl,rfl⟩)|(go_at_call 25;refine(bb _ _ _ _).mono ?_;rintro e w' ⟨rfl,rfl⟩))
    all_goals go_ret
    all_goals refine⟨Pl.ae ?_,eW⟩
    all_goals rw[HF.out,Is.out]
    all_goals clear HF Is eW k3 HX
    all_goals go_light
    all_goals first|(simp_all;done)|(simp_all;omega)|(rw[Bool.eq_iff_iff];simp_all;done)|(rw[Bool.eq_iff_iff];simp_all;omega)
 obtain⟨w3,rfl⟩:∃ w3,w3=w2:=⟨_,rfl⟩
 have eW:=bF;have k3:=k2;have HF:Hid (R=aC ss f):=by show R=aC ss f;rw[HR.out,HO.out,hba];simp[gg,Pl.aE,hem]
 clear k2 bF z2 iF HO HR;have HQ:=hid ll.out;obtain⟨r,hr⟩:∃ r:Int,r=(if aB ss f.to<ss.length then (aB ss f.to:Int) else -1):=⟨_,rfl⟩
 have HX:Hid (Calls Tryz.prog 124 #[.slice (some ⟨B,0,none⟩) ss.length ss.length,.string f.to] w3 fun e w'=>e=.returned (.int .i64 r)∧w3=w'):=by
  rw[hr];exact fQ B ss f.to w3 (HL.out.later eW)
 have hq:decide (0≤r)=aJ ss f.to:=by rw[hr,aJ];split<;>simp_all
 clear HP HL ll hr;cases hh:aJ ss f.to
 ·rw[hh]at hq;have Lf:r<0:=by simpa using hq
  have HG:Hid (aC ss f=false):=by show aC ss f=_;rw[HQ.out,hh];rfl
  clear hq hh;go_wp2_with fail
  refine HX.out.mono ?_;rintro e w4 ⟨rfl,rfl⟩;go_wp2;go_ret;exact⟨Pl.ae (by rw[HF.out,HG.out]),eW⟩
 ·rw[hh]at hq;have Lf:0≤r:=by simpa using hq
  have HG:Hid (aC ss f=((decide (1≤f.role)&&decide (f.role≤3))&&f.de.toList.isEmpty&&(!decide (f.role=2)|| !f.must))):=by show aC ss f=_;rw[HQ.out,hh];rfl
  clear hq hh HQ;cases bC:(decide (1≤f.role)&&decide (f.role≤3))
  ·go_wp2_with (first|(go_at_call 124;refine HX.out.mono ?_;rintro e w4 ⟨rfl,rfl⟩)|(go_at_call 25;refine(bb _ _ _ _).mono ?_;rintro e w' ⟨rfl,rfl⟩))
   go_ret;exact⟨Pl.ae (by rw[HF.out,HG.out,bC];rfl),eW⟩
  ·have Is:Hid (aC ss f=(f.de.toList.isEmpty&&(!decide (f.role=2)|| !f.must))):=by show aC ss f=_;rw[HG.out,bC];rfl
   clear HG;go_wp2_with (first|(go_at_call 124;refine HX.out.mono ?_;rintro e w4 ⟨rfl,rfl⟩)|(go_at_call 25;refine(bb _ _ _ _).mono ?_;rintro e w' ⟨rfl,rfl⟩))
   all_goals go_ret
   all_goals refine⟨Pl.ae ?_,eW⟩
   all_goals rw[HF.out,Is.out]
   all_goals clear HF Is eW k3 HX
   all_goals go_light
   all_goals first|(simp_all;done)|(simp_all;omega)|(rw[Bool.eq_iff_iff];simp_all;done)|(rw[Bool.eq_iff_iff];simp_all;omega)
structure bW (w:World) (B:Nat) (fs:List Fld):Prop where
 lt:B<w.heap.size
 len:fs.length≤1048576
 small:∀ f∈fs,f.small
 at_:∀ i,i<fs.length→bp w B (i*11) (fs.getD i Fld.none)
theorem bW.later {w w':World} {B:Nat} {fs:List Fld} (h:bW w B fs) (hb:Bel w w'):bW w' B fs:=
 ⟨lo h.lt hb.size,h.len,h.small,fun i hi=>(h.at_ i hi).later hb h.lt⟩
theorem bW.arg {w:World} {B:Nat} {fs:List Fld} (h:bW w B fs) {i:Nat} (hi:i<fs.length) {f:Fld} (hf:f=fs.getD i Fld.none):
  ∃ b,eC w b f∧jL w B (i*11) f (.slice (some ⟨b,0,none⟩) f.words.length f.words.length):=by
 obtain⟨b,_,hl,h2⟩:=h.at_ i hi;rw[← hf]at h2;exact⟨b,⟨hl,h.small f (by rw[hf];simp[hi]),h2.sized,h2.texts.sizes,jW h2.texts⟩,h2⟩
def nameAt (fs:List Fld) (k:ByteArray):Nat:=fs.findIdx (fun f=>f.nm.toList==k.toList)
theorem jG (fs:List Fld) (k:ByteArray) (i:Nat) (hi:i<fs.length) (iH:i≤nameAt fs k) (h:((fs.getD i Fld.none).nm.toList==k.toList)=true):nameAt fs k=i:=by
 have e:fs.getD i Fld.none=fs[i]:=by simp[hi]
 rw[e]at h;have:nameAt fs k≤i:=by
  unfold nameAt;exact Nat.le_of_not_lt fun aw=>by
   have:=List.not_of_lt_findIdx aw;simp[h]at this
 omega
theorem iS (fs:List Fld) (k:ByteArray) (i:Nat) (hi:i<fs.length) (iH:i≤nameAt fs k) (h:((fs.getD i Fld.none).nm.toList==k.toList)=false):i+1≤nameAt fs k:=by
 have e:fs.getD i Fld.none=fs[i]:=by simp[hi]
 rw[e]at h;by_cases hq:nameAt fs k=i
 ·exfalso;have aw:nameAt fs k<fs.length:=by omega
  have:=List.findIdx_getElem (w:=aw);unfold nameAt at hq;simp only[hq]at this;rw[this]at h;cases h
 ·omega
theorem pX (fs:List Fld) (i:Nat) (hi:i<fs.length):nameAt fs (fs.getD i Fld.none).nm≤i:=by
 unfold nameAt;exact Nat.le_of_not_lt fun aw=>by
  have:=List.not_of_lt_findIdx aw;simp[hi]at this
theorem any_eq (fs:List Fld) (k:ByteArray) (i:Nat) (hi:i≤fs.length):((List.range i).any fun j=>(fs.getD j Fld.none).nm.toList==k.toList)=decide (nameAt fs k<i):=by
 rw[Bool.eq_iff_iff,decide_eq_true_eq,List.any_eq_true];constructor
 ·rintro⟨j,hj,h⟩;rw[List.mem_range]at hj;have lq:j<fs.length:=by omega
  have e:fs.getD j Fld.none=fs[j]:=by simp[lq]
  rw[e]at h;unfold nameAt;refine Nat.lt_of_le_of_lt (Nat.le_of_not_lt fun aw=> ?_) hj;have:=List.not_of_lt_findIdx aw;rw[h]at this;cases this
 ·intro h;have hl:nameAt fs k<fs.length:=by omega
  refine⟨nameAt fs k,List.mem_range.2 h, ?_⟩;have e:fs.getD (nameAt fs k) Fld.none=fs[nameAt fs k]:=by simp[hl]
  rw[e];exact List.findIdx_getElem (xs:=fs) (p:=fun f:Fld=>f.nm.toList==k.toList) (w:=hl)
theorem lK (fs:List Fld) (i:Nat) (hi:i<fs.length):Df fs i=decide (nameAt fs (fs.getD i Fld.none).nm<i):=any_eq fs _ i (Nat.le_of_lt hi)
theorem Ad (f:Fld) (b cb:Nat) (k:ByteArray) (w:World) (Kz:cb<w.heap.size) (hc:w.cell? ⟨cb,0,none⟩=some (.string k)):
  Calls Tryz.prog 211 #[.agg #[.string f.nm,.int .i64 f.kind,.int .i64 f.least,.int .i64 f.most,.slice (some ⟨b,0,none⟩) f.words.length f.words.length,.string f.to,.int .i64 f.role,.bool f.must,.bool f.fixed,.string f.de,.string f.we],.pointer (some ⟨cb,0,none⟩)] w fun e w'=>e=.returned (.bool (f.nm.toList==k.toList))∧Bel w w':=by
 go_enter Tryz.func211,Tryz.ntmps211
 go_wp2;go_ret;exact⟨rfl,ab br _⟩
theorem vW (B cb:Nat) (fs:List Fld) (k:ByteArray) (w:World) (h:bW w B fs) (Kz:cb<w.heap.size) (hc:w.cell? ⟨cb,0,none⟩=some (.string k)):
  Calls Tryz.prog 210 #[.slice (some ⟨B,0,none⟩) fs.length fs.length,.func (.func 211) #[] #[.pointer (some ⟨cb,0,none⟩)]] w fun e w'=>(∃ r:Int,e=.returned (.int .i64 r)∧r=(if nameAt fs k<fs.length then (nameAt fs k:Int) else -1))∧Bel w w':=by
 have hl:=h.len;have HH:=hid h;have HC:=hid hc;obtain⟨R,hR⟩:∃ R:Int,R=(if nameAt fs k<fs.length then (nameAt fs k:Int) else -1):=⟨_,rfl⟩
 rw[← hR];have HR:=hid hR;clear h hc hR;go_enter Tryz.func210,Tryz.ntmps210
 go_wp2;go_loopw [8] (fun i wr=>∃ q:Nat,q≤fs.length∧i=.int .i64 q∧q≤nameAt fs k∧Bel w wr) (fun i _=>fs.length - (intOf i).toNat)
 case atStart=>exact⟨0,nz,rfl,nz,br⟩
 case round=>
  obtain⟨q,hq,rfl,iH,hW⟩:=hrel;have HN:=hid iH;clear iH;by_cases aw:q<fs.length
  ·obtain⟨f,fG⟩:∃ f,f=fs.getD q Fld.none:=⟨_,rfl⟩
   obtain⟨b,_,hf⟩:=(HH.out.later hW).arg aw fG;obtain⟨c0,c1,c2,c3,c4,c5,c6,c7,c8,c9,c10,_,_⟩:=hf;have HX:=hid (And.intro (lo Kz hW.size) ((hW.cell (p:=⟨cb,0,none⟩) Kz).trans HC.out));cases ht:(f.nm.toList==k.toList)
   ·have HM:=hid (iS fs k q aw HN.out (by rw[← fG];exact ht));clear fG;go_wp2_with fail
    refine(Ad f b cb k wr HX.out.1 HX.out.2).mono ?_;rintro e w2 ⟨rfl,aA⟩;have bF:=aa hW aA;clear aA c0 c1 c2 c3 c4 c5 c6 c7 c8 c9 c10;go_wp2;go_roundw
    case rel=>exact⟨q+1,by omega,by go_num,HM.out,bF⟩
    case measure=>simp[intOf];omega
   ·have HM:=hid (jG fs k q aw HN.out (by rw[← fG];exact ht));clear fG;go_wp2_with fail
    refine(Ad f b cb k wr HX.out.1 HX.out.2).mono ?_;rintro e w2 ⟨rfl,aA⟩;have bF:=aa hW aA;clear aA c0 c1 c2 c3 c4 c5 c6 c7 c8 c9 c10;go_wp2;go_ret;exact⟨⟨_,rfl,by rw[HR.out,HM.out,if_pos aw]⟩,bF⟩
  ·go_wp2;go_ret;exact⟨⟨_,rfl,by rw[HR.out,if_neg (by have:=HN.out;omega)]⟩,hW⟩
theorem fieldPlace (B:Nat) (fs:List Fld) (k:ByteArray) (w:World) (h:bW w B fs):
  Calls Tryz.prog 195 #[.slice (some ⟨B,0,none⟩) fs.length fs.length,.string k] w fun e w'=>(∃ r:Int,e=.returned (.int .i64 r)∧r=(if nameAt fs k<fs.length then (nameAt fs k:Int) else -1))∧Bel w w':=by
 have HH:=hid h;obtain⟨R,hR⟩:∃ R:Int,R=(if nameAt fs k<fs.length then (nameAt fs k:Int) else -1):=⟨_,rfl⟩
 rw[← hR];have HR:=hid hR;clear h hR;go_enter Tryz.func195,Tryz.ntmps195
 go_wp2_with fail
 refine(vW B w.heap.size fs k _ (HH.out.later (ab br _)) (by simp) (by simp)).mono ?_;rintro e w2 ⟨⟨r,rfl,hr⟩,aA⟩;have bF:=aa (ab br _) aA;have hr':r=R:=by rw[hr,HR.out]
 subst hr';clear aA hr;go_wp2;go_ret;exact⟨⟨_,rfl,rfl⟩,bF⟩
end Go.Proofs.YtbiokpmdghmgcaaGreat
