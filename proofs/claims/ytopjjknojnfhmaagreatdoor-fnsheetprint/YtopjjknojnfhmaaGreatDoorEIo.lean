import Derived.WalkKit
import Derived.WalkSpells
import Derived.WalkLawsBesides
import Derived.Test.YtopjjknojnfhmaaGreatDoorRows
import Derived.Test.YtopjjknojnfhmaaGreatDoorEFd
import Derived.Test.YtopjjknojnfhmaaGreatDoorEIc
namespace Go.Proofs.YtopjjknojnfhmaaGreatDoor
set_option maxHeartbeats 40000000
open Go.RowKit
theorem qG (s:ByteArray) (w:World) (hs:s.size≤maxLen):
  Calls Tryz.prog 44 #[.string s] w fun e w'=>e=.returned (.bool (Pl.nameBytes s))∧w=w':=by
 unfold maxLen at hs;go_enter Tryz.func44,Tryz.ntmps44
 go_wp2;go_loop [7] (fun i=>∃ k:Nat,k≤s.size∧i=.int .i64 k∧(s.data.toList.take k).all Pl.bV=true) (fun i=>s.size - (intOf i).toNat)
 case atStart=>exact⟨0,zN,rfl,rfl⟩
 case round=>
  obtain⟨k,hk,rfl,bs⟩:=hrel;have HA:Hid ((s.data.toList.take k).all Pl.bV=true):=bs;clear bs;by_cases bd:k<s.size
  ·go_wp2
   all_goals simp only[Bool.not_eq_eq_eq_not,Bool.not_true,Bool.not_false,beq_iff_eq,beq_eq_false_iff_ne,decide_eq_true_eq,decide_eq_false_iff_not]at*
   all_goals first
    |(go_ret
      have hn:Pl.bV s[k]=false:=by rw[Bool.eq_false_iff];simp[Pl.bV];omega
      exact⟨Pl.aq (Pl.all_false _ s k bd hn).symm,rfl⟩)
    |(have hn:Pl.bV s[k]=true:=by simp[Pl.bV];omega
      go_round
      case rel=>exact⟨k+1,by omega,by go_num,by rw[Pl.iz _ _ _ bd,HA.out,hn];rfl⟩
      case measure=>simp[intOf];omega)
  ·have HF:Hid (Pl.nameBytes s=true):=by
    show Pl.nameBytes s=true;have:=Pl.mh Pl.bV s k (by omega);simp only[Pl.nameBytes,← this,HA.out]
   go_wp2;go_ret;exact⟨Pl.aq HF.out.symm,rfl⟩
theorem lD {a b:Int} {c d:Bool} (h:a=b) (g:c=d):Ending.returned (.tuple #[.int .i64 a,.bool c])=.returned (.tuple #[.int .i64 b,.bool d]):=by rw[h,g]
def g5 (s:ByteArray):Int:=if Pl.dF s then Pl.aX s.data.toList else 0
theorem sD (s:ByteArray) (w:World) (h1:1≤s.size) (h7:s.size≤7) (hl:Pl.lead s=false):
  Calls Tryz.prog 114 #[.string s] w fun e w'=>e=.returned (.tuple #[.int .i64 (g5 s),.bool (Pl.dF s)])∧w=w':=by
 have Pm:=Pl.fE s h1;have HN:Hid (Pl.lead s=false):=hl;have HB:Hid ((s[0].toNat:Int)=48→(s.toList==[48])=true):=by
  intro h0;rw[Pl.yP s (by omega),Pl.pG]at hl;have du:¬ 1<s.size:=by
   intro h2;simp[h2]at hl;omega
  refine Pl.Ew s (by omega) 48 ?_;rw[Pl.oh s (by omega)];have:s[0].toNat=48:=by omega
  exact UInt8.toNat_inj.1 (by simpa using this)
 clear hl;have hd7:decide ((7:Int)<(s.size:Int))=false:=by simp;omega
 have H0:Hid ((((s[0].toNat:Int)==48)=true∧(s.toList==[48])=true)∨((s[0].toNat:Int)==48)=false):=by
  by_cases h0:(s[0].toNat:Int)=48
  ·exact Or.inl ⟨by simp[h0],HB.out h0⟩
  ·exact Or.inr (by simp[h0])
 clear HB;rcases H0.out with⟨h0b,hb⟩|h0b
 all_goals
  clear H0;go_enter Tryz.func114,Tryz.ntmps114
  go_wp2;go_loop [4,24] (fun n i=>∃ k:Nat,k≤s.size∧i=.int .i64 k∧n=.int .i64 (Pl.aX (s.data.toList.take k))∧(s.data.toList.take k).all Pl.digit=true) (fun _ i=>s.size - (intOf i).toNat)
  case atStart=>exact⟨0,zN,rfl,rfl,rfl⟩
  case round=>
   obtain⟨k,hk,rfl,rfl,bs⟩:=hrel;have oI:=Pl.ly s k hk (by omega) bs;obtain⟨b1,b2⟩:=oI;have HA:Hid ((s.data.toList.take k).all Pl.digit=true):=bs;clear bs;by_cases bd:k<s.size
   ·have HS:Hid (Pl.aX (s.data.toList.take (k+1))=Pl.aX (s.data.toList.take k)*10+((s[k].toNat:Int) - 48)):=Pl.jq s k bd;by_cases hd:48≤(s[k].toNat:Int)∧(s[k].toNat:Int)≤57
    ·obtain⟨d1,d2⟩:=hd;go_wp2;go_round
     case rel=>exact⟨k+1,by omega,by go_num,by rw[HS.out],by rw[Pl.iz _ _ _ bd,HA.out];simp[Pl.digit];omega⟩
     case measure=>simp[intOf];omega
    ·have HF:Hid (Pl.dF s=false):=by
      show Pl.dF s=false;have:s.data.toList.all Pl.digit=false:=Pl.all_false _ s k bd (by rw[Bool.eq_false_iff];simp[Pl.digit];omega);simp[Pl.dF,this]
     by_cases Hw:48≤(s[k].toNat:Int)
     all_goals
      go_wp2;go_ret2;exact⟨lD (by simp[g5,HF.out]) HF.out.symm,rfl⟩
   ·have HF:Hid (Pl.dF s=true∧Pl.aX s.data.toList=Pl.aX (s.data.toList.take k)):=by
     show Pl.dF s=true∧Pl.aX s.data.toList=Pl.aX (s.data.toList.take k);have e:s.data.toList.take k=s.data.toList:=List.take_of_length_le (by simp;omega);have ha:=HA.out;rw[e]at ha ⊢;refine⟨?_,rfl⟩;simp[Pl.dF,ha,HN.out];omega
    go_wp2;go_ret2;exact⟨lD (by simp[g5,HF.out.1,HF.out.2]) HF.out.1.symm,rfl⟩
theorem um (s:ByteArray) (w:World) (hs:s.size≤maxLen):
  Calls Tryz.prog 114 #[.string s] w fun e w'=>e=.returned (.tuple #[.int .i64 (g5 s),.bool (Pl.dF s)])∧w=w':=by
 unfold maxLen at hs;by_cases h1:1≤s.size
 ·have Pm:=Pl.fE s h1;by_cases h7:s.size≤7
  ·cases hl:Pl.lead s
   ·exact sD s w h1 h7 hl
   ·have HF:Hid (Pl.dF s=false):=by show _=_;simp[Pl.dF,hl]
    have hd7:decide ((7:Int)<(s.size:Int))=false:=by simp;omega
    rw[Pl.yP s (by omega),Pl.pG]at hl;simp only[Bool.and_eq_true,decide_eq_true_eq]at hl;obtain⟨h2,h0⟩:=hl;have h0':((s[0].toNat:Int)==48)=true:=h0;have hb:=Pl.xC s h2 48;clear h0;go_enter Tryz.func114,Tryz.ntmps114
    go_wp2;go_ret2;exact⟨lD (by simp[g5,HF.out]) HF.out.symm,rfl⟩
  ·have HF:Hid (Pl.dF s=false):=by show _=_;simp[Pl.dF,h7]
   have hd7:decide ((7:Int)<(s.size:Int))=true:=by simp;omega
   go_enter Tryz.func114,Tryz.ntmps114
   go_wp2;go_ret2;exact⟨lD (by simp[g5,HF.out]) HF.out.symm,rfl⟩
 ·have HF:Hid (Pl.dF s=false):=by show _=_;simp[Pl.dF,h1]
  have Pm:=Pl.fq s h1;go_enter Tryz.func114,Tryz.ntmps114
  go_wp2;go_ret2;exact⟨lD (by simp[g5,HF.out]) HF.out.symm,rfl⟩
end Go.Proofs.YtopjjknojnfhmaaGreatDoor
namespace Go.Proofs.YtopjjknojnfhmaaGreatDoor
set_option maxRecDepth 8000
set_option maxHeartbeats 40000000
open Go.RowKit Go.Deep
theorem vN (n lo hi:Int) (w:World):
  Calls Tryz.prog 43 #[.int .i64 n,.int .i64 lo,.int .i64 hi] w fun e w'=>e=.returned (.bool (decide (lo≤n)&&decide (n≤hi)))∧w=w':=by
 by_cases h:lo≤n
 all_goals
  go_enter Tryz.func43,Tryz.ntmps43
  go_wp2;go_ret;exact⟨Pl.aq (by rw[Bool.eq_iff_iff];simp;try omega),rfl⟩
theorem jt (s:ByteArray) (w:World) (hs:s.size≤maxLen):
  Calls Tryz.prog 94 #[.string s] w fun e w'=>e=.returned (.bool (Pl.cV s))∧w=w':=by
 have HC:=uh (um s w hs);have HN:Hid (Pl.cV s=(Pl.dF s&&decide (g5 s≤1000000))):=by
  show _=_;unfold Pl.cV g5;cases Pl.dF s<;>simp
 obtain⟨d,hd⟩:∃ d,d=g5 s:=⟨_,rfl⟩
 obtain⟨b,hb⟩:∃ b,b=Pl.dF s:=⟨_,rfl⟩
 rw[← hd,← hb]at HC HN;clear hd hb;go_enter Tryz.func94,Tryz.ntmps94
 cases b
 all_goals go_wp2_with (go_at_call 114;refine HC.out.mono ?_;rintro e w' ⟨rfl,rfl⟩)
 all_goals go_ret
 all_goals exact⟨Pl.aq (by rw[HN.out];simp),rfl⟩
theorem iY (s:ByteArray) (w:World) (hs:s.size≤maxLen):
  Calls Tryz.prog 25 #[.string s] w fun e w'=>e=.returned (.bool (Pl.aT s))∧w=w':=by
 have HC:=uh (qG s w hs);have HG:=uh (vN s.size 1 20 w);have HN:Hid (Pl.aT s=((decide ((1:Int)≤(s.size:Int))&&decide ((s.size:Int)≤20))&&Pl.nameBytes s)):=by
  show _=_;unfold Pl.aT;congr 1;rw[Bool.eq_iff_iff];simp;omega
 obtain⟨b,hb⟩:∃ b,b=(decide ((1:Int)≤(s.size:Int))&&decide ((s.size:Int)≤20)):=⟨_,rfl⟩
 rw[← hb]at HG HN;clear hb;unfold maxLen at hs;go_enter Tryz.func25,Tryz.ntmps25
 cases b
 all_goals go_wp2_with (first|(go_at_call 43;refine HG.out.mono ?_;rintro e w' ⟨rfl,rfl⟩)|(go_at_call 44;refine HC.out.mono ?_;rintro e w' ⟨rfl,rfl⟩))
 all_goals go_ret
 all_goals exact⟨Pl.aq (by rw[HN.out];simp),rfl⟩
def Pl.minus (s:ByteArray):Bool:=decide (1≤s.size)&&(s.data.toList.headD 0==45)
theorem Pl.DF (s:ByteArray) (h:¬ 1≤s.size):Pl.minus s=false:=by unfold Pl.minus;simp[h]
theorem Pl.CA (s:ByteArray) (h:1≤s.size):((s.extract 0 1).toList==[45])=Pl.minus s:=by
 unfold Pl.minus;rw[Pl.tl];have e:(s.extract 0 1).data.toList=s.data.toList.take 1:=by simp[ByteArray.data_extract]
 rw[e];cases hl:s.data.toList with
 |nil=>
  have:=Pl.aD s;rw[hl]at this;simp at this;omega
 |cons c l=>simp[h]
theorem AW (s:ByteArray) (w:World) (hs:s.size≤maxLen):
  Calls Tryz.prog 136 #[.string s,.string {data:=#[45]}] w fun e w'=>e=.returned (.bool (Pl.minus s))∧w=w':=by
 unfold maxLen at hs;by_cases h1:1≤s.size
 ·have HE:=uh (Pl.CA s h1);have h2:decide ((1:Int)≤(s.size:Int))=true:=by simp;omega
  go_enter Tryz.func136,Tryz.ntmps136
  go_wp2;go_ret;exact⟨Pl.aq HE.out,rfl⟩
 ·have HE:=uh (Pl.DF s h1);have h2:decide ((1:Int)≤(s.size:Int))=false:=by simp;omega
  go_enter Tryz.func136,Tryz.ntmps136
  go_wp2;go_ret;exact⟨Pl.aq HE.out.symm,rfl⟩
theorem Pl.pn {s:ByteArray} (h:Pl.minus s=true):1≤s.size:=by
 unfold Pl.minus at h;simp at h;exact h.1
def Pl.rest (s:ByteArray):ByteArray:=if Pl.minus s then s.extract 1 s.size else s
theorem z8 (s:ByteArray) (w:World) (hs:s.size≤maxLen):
  Calls Tryz.prog 130 #[.string s,.string {data:=#[45]}] w fun e w'=>e=.returned (.tuple #[.string (Pl.rest s),.bool (Pl.minus s)])∧w=w':=by
 have HC:=uh (AW s w hs);unfold maxLen at hs;cases hm:Pl.minus s
 ·rw[hm]at HC;have HR:Hid (Pl.rest s=s):=by show _=_;unfold Pl.rest;rw[hm];rfl
  go_enter Tryz.func130,Tryz.ntmps130
  go_wp2_with (go_at_call 136;refine HC.out.mono ?_;rintro e w' ⟨rfl,rfl⟩)
  go_ret2;rw[HR.out];exact⟨rfl,rfl⟩
 ·have h1:=Pl.pn hm;rw[hm]at HC;have HR:Hid (Pl.rest s=s.extract 1 s.size):=by show _=_;unfold Pl.rest;rw[hm];rfl
  go_enter Tryz.func130,Tryz.ntmps130
  go_wp2_with (go_at_call 136;refine HC.out.mono ?_;rintro e w' ⟨rfl,rfl⟩)
  go_ret2;rw[HR.out];exact⟨rfl,rfl⟩
theorem Ap (s:ByteArray) (w:World) (hs:s.size≤maxLen):
  Calls Tryz.prog 115 #[.string s,.string {data:=#[45]}] w fun e w'=>e=.returned (.tuple #[.string (Pl.rest s),.bool (Pl.minus s)])∧w=w':=by
 have HC:=uh (z8 s w hs);go_enter Tryz.func115,Tryz.ntmps115
 go_wp2_with (go_at_call 130;refine HC.out.mono ?_;rintro e w' ⟨rfl,rfl⟩)
 go_ret2;exact⟨rfl,rfl⟩
theorem Pl.KO (s:ByteArray):Pl.pL s=(Pl.cV (Pl.rest s)&& !(Pl.minus s&&((Pl.rest s).toList==[48]))):=by
 unfold Pl.pL Pl.rest;cases hm:Pl.minus s
 ·have:(decide (1<s.size)&&(s.data.toList.headD 0==45))=false:=by
   unfold Pl.minus at hm;rw[Bool.eq_false_iff]at hm ⊢;intro h;apply hm;simp only[Bool.and_eq_true,decide_eq_true_eq]at h ⊢;exact⟨by omega,h.2⟩
  rw[this];simp
 ·have h1:=Pl.pn hm;have Lm:(s.data.toList.headD 0==45)=true:=by unfold Pl.minus at hm;rw[Bool.and_eq_true]at hm;exact hm.2
  have hn:Pl.cV s=false:=by
   unfold Pl.cV Pl.dF;have:s.data.toList.all Pl.digit=false:=by
    cases hl:s.data.toList with
    |nil=>have:=Pl.aD s;rw[hl]at this;simp at this;omega
    |cons c l=>
     rw[hl]at Lm;simp at Lm;rw[Lm];rfl
   simp[this]
  rw[hn,Lm];by_cases h2:1<s.size
  ·simp[h2,Bool.and_comm]
  ·have e0:(s.extract 1 s.size).size=0:=by simp[ByteArray.size_extract];omega
   have hr:Pl.cV (s.extract 1 s.size)=false:=by unfold Pl.cV Pl.dF;rw[e0];simp
   simp[h2,hr]
theorem pV (s:ByteArray) (w:World) (hs:s.size≤maxLen):
  Calls Tryz.prog 95 #[.string s] w fun e w'=>e=.returned (.bool (Pl.pL s))∧w=w':=by
 have HC:=uh (Ap s w hs);have hr:(Pl.rest s).size≤maxLen:=by
  unfold Pl.rest;split
  ·simp[ByteArray.size_extract];omega
  ·exact hs
 have HN:=uh (jt (Pl.rest s) w hr);have HE:=uh (Pl.KO s);obtain⟨r,Fa⟩:∃ r,r=Pl.rest s:=⟨_,rfl⟩
 obtain⟨m,hm⟩:∃ m,m=Pl.minus s:=⟨_,rfl⟩
 obtain⟨b,hb⟩:∃ b,b=Pl.cV r:=⟨_,rfl⟩
 rw[← Fa,← hm]at HC HE;rw[← Fa,← hb]at HN;rw[← hb]at HE;clear Fa hm hb hr;go_enter Tryz.func95,Tryz.ntmps95
 cases b<;>cases m
 all_goals go_wp2_with (first|(go_at_call 115;refine HC.out.mono ?_;rintro e w' ⟨rfl,rfl⟩)|(go_at_call 94;refine HN.out.mono ?_;rintro e w' ⟨rfl,rfl⟩))
 all_goals go_ret
 all_goals exact⟨Pl.aq (by rw[HE.out];simp),rfl⟩
theorem pf (t:Int) (s:ByteArray) (w:World) (hs:s.size≤maxLen) (ht:1≤t∧t≤6):
  Calls Tryz.prog 72 #[.int .i64 t,.string s] w fun e w'=>e=.returned (.bool (Pl.dV t s))∧w=w':=by
 have H1:=uh (jt s w hs);have H2:=uh (pV s w hs);have H3:=uh (iY s w hs);unfold maxLen at hs;have hc:t=1∨t=2∨t=3∨t=4∨t=5∨t=6:=by omega
 clear ht;rcases hc with rfl|rfl|rfl|rfl|rfl|rfl
 ·go_enter Tryz.func72,Tryz.ntmps72
  go_wp2_with (go_at_call 94;refine H1.out.mono ?_;rintro e w' ⟨rfl,rfl⟩)
  go_ret;exact⟨rfl,rfl⟩
 ·go_enter Tryz.func72,Tryz.ntmps72
  go_wp2_with (go_at_call 95;refine H2.out.mono ?_;rintro e w' ⟨rfl,rfl⟩)
  go_ret;exact⟨rfl,rfl⟩
 ·go_enter Tryz.func72,Tryz.ntmps72
  go_wp2_with (go_at_call 25;refine H3.out.mono ?_;rintro e w' ⟨rfl,rfl⟩)
  go_ret;exact⟨rfl,rfl⟩
 ·go_enter Tryz.func72,Tryz.ntmps72
  go_wp2;go_ret;exact⟨Pl.aq (by show _=decide (s.size≤200);rw[Bool.eq_iff_iff];simp;omega),rfl⟩
 ·have HF:Hid (Pl.dV 5 s=((s.toList==[121,101,115])||(s.toList==[110,111]))):=rfl;cases h1:(s.toList==[121,101,115])
  all_goals
   rw[h1]at HF;go_enter Tryz.func72,Tryz.ntmps72
   go_wp2;go_ret;exact⟨Pl.aq (by rw[HF.out];simp),rfl⟩
 ·have HF:Hid (Pl.dV 6 s=((s.toList==[110,111,110,101])||(s.toList==[98,101,114,116,104])||(s.toList==[122,111,110,101]))):=rfl;cases h1:(s.toList==[110,111,110,101])<;>cases h2:(s.toList==[98,101,114,116,104])
  all_goals
   rw[h1,h2]at HF;go_enter Tryz.func72,Tryz.ntmps72
   go_wp2;go_ret;exact⟨Pl.aq (by rw[HF.out];simp),rfl⟩
theorem Pl.pC (kind:ByteArray):∀ r∈Pl.ai kind,∀ z∈r.args,1≤z∧z≤6:=by
 unfold Pl.ai;split
 ·decide
 ·split
  ·decide
  ·split
   ·decide
   ·intro r hr;cases hr
theorem Pl.fX (kind:ByteArray):(Pl.ai kind).length≤100:=by
 unfold Pl.ai;split
 ·decide
 ·split
  ·decide
  ·split<;>decide
theorem KJ (x key:ByteArray) (v1 v3:Value) (m:Bool) (B:Nat) (w:World) (hB:w.cell? ⟨B,0,none⟩=some (.string key)) (bd:B<w.heap.size):
  Calls Tryz.prog 93 #[.agg #[.string x,v1,.bool m,v3],.pointer (some ⟨B,0,none⟩)] w fun e w'=>e=.returned (.bool (x.toList==key.toList))∧Bel w w':=by
 have du:B≠w.heap.size:=by omega
 go_enter Tryz.func93,Tryz.ntmps93
 go_wp2;go_ret;refine⟨rfl, ?_⟩;repeat(first|exact zR|refine ae ?_ _|refine Below.drew ?_)
theorem Gs (l:List Pl.Ru) (va:Option Addr) (vc:Nat) (key:ByteArray) (B:Nat) (w:World) (hl:l.length≤100) (h:Raw w [.row 96 aF] [cQ l] [.slice va l.length vc]) (hB:w.cell? ⟨B,0,none⟩=some (.string key)) (hBl:B<w.heap.size):
  Calls Tryz.prog 92 #[.slice va l.length vc,.func (.func 93) #[] #[.pointer (some ⟨B,0,none⟩)]] w fun e w'=>e=.returned (.int .i64 (Pl.ixI (Pl.bC l key)))∧Bel w w':=by
 have HR:=uh h;have HK:=uh (And.intro hB hBl);clear h hB hBl;go_enter Tryz.func92,Tryz.ntmps92
 go_wp2;go_loopw [8] (fun i wr=>∃ k:Nat,k≤l.length∧i=.int .i64 k∧Pl.bC l key=Pl.dU key (l.drop k) k∧Bel w wr) (fun i _=>l.length - (intOf i).toNat)
 case atStart=>exact⟨0,zN,rfl,rfl,zR⟩
 case round=>
  obtain⟨k,hk,rfl,hI,hW⟩:=hrel;have HI:=uh hI;have HW:=uh hW;clear hI hW;by_cases bd:k<l.length
  ·obtain⟨p,o,c,a1,c1,v3,hv,hp,hg,_,_⟩:=jV (HR.out.later HW.out) bd;injection hv with e1 _ e3
   subst e1;subst e3;have y0:wr.cell? ⟨p,o+k*4,none⟩=some (.string (l.getD k Pl.bq).key):=aE hg 0 _ rfl;have y1:=aE hg 1 _ rfl;have y2:=aE hg 2 _ rfl;have y3:=aE hg 3 _ rfl;have ec:(0:Int)≤(k:Int):=by omega
   have dP:(k:Int)<(l.length:Int):=by omega
   have HM:=uh (fun h=>Pl.rY bd HI.out h);have HH:=uh (fun h=>Pl.uQ bd HI.out h);obtain⟨x,hx⟩:∃ x,x=(l.getD k Pl.bq).key:=⟨_,rfl⟩
   obtain⟨m,hm⟩:∃ m,m=(l.getD k Pl.bq).many:=⟨_,rfl⟩
   obtain⟨n1,jn⟩:∃ n1,n1=(l.getD k Pl.bq).args.length:=⟨_,rfl⟩
   rw[← hx]at y0 HM HH;rw[← jn]at y1;rw[← hm]at y2;have HC:=uh (KJ x key (.slice a1 n1 c1) v3 m B wr ((HW.out.cell (p:=⟨B,0,none⟩) HK.out.2).trans HK.out.1) (zL HK.out.2 HW.out.size));clear hx hm jn hg;cases hq:(x.toList==key.toList)
   ·have HX:=uh (HM.out hq);rw[hq]at HC;clear hq;go_wp2_with fail
    refine HC.out.mono ?_;rintro e w1 ⟨rfl,hb⟩;go_wp2;go_roundw
    case rel=>exact⟨k+1,by omega,by go_num,HX.out,ah HW.out hb⟩
    case measure=>simp[intOf];omega
   ·have HX:Hid ((k:Int)=Pl.ixI (Pl.bC l key)):=by show _=_;rw[HH.out hq];rfl
    rw[hq]at HC;clear hq;go_wp2_with fail
    refine HC.out.mono ?_;rintro e w1 ⟨rfl,hb⟩;go_wp2;go_ret;exact⟨Pl.cU HX.out,ah HW.out hb⟩
  ·obtain rfl:k=l.length:=by omega
   have HX:Hid (-1=Pl.ixI (Pl.bC l key)):=by show _=_;rw[Pl.vj HI.out];rfl
   go_wp2;go_ret;exact⟨Pl.cU HX.out,HW.out⟩
theorem mT (x:ByteArray) (m:Bool) (ag:List Int) (a1:Option Addr) (c1:Nat) (v3:Value) (ws:List ByteArray) (wv:Value) (w:World) (hA:Raw w [.row 3 [.i]] [.row ag.length (ag.map .i)] [.slice a1 ag.length c1]) (hw:Raw w [.row 9 [.s]] [.row ws.length (txD ws)] [wv]) (hz:∀ z∈ag,1≤z∧z≤6) (hs:∀ x∈ws,x.size≤maxLen):
  Calls Tryz.prog 46 #[.agg #[.string x,.slice a1 ag.length c1,.bool m,v3],wv] w fun e w'=>e=.returned (.bool (Pl.gP ag ws))∧Bel w w':=by
 obtain⟨wa2,NT,L8⟩:=hw.bm;subst L8;have qa:=uh hs;have HZ:=uh hz;by_cases hlen:ag.length=ws.length
 rotate_left
 ·have du:((ws.length:Int) !=(ag.length:Int))=true:=by simp;omega
  have HX:Hid (Pl.gP ag ws=false):=by show _=_;rw[Pl.gP];simp[hlen]
  clear hlen hA hw;go_enter Tryz.func46,Tryz.ntmps46
  go_wp2;go_ret;rw[HX.out];exact⟨rfl,ae zR _⟩
 have HX:Hid (Pl.gP ag ws=Pl.eV ag ws):=by show _=_;rw[Pl.gP];simp[hlen]
 rw[hlen]at hA ⊢;obtain⟨n,hn⟩:∃ n,n=ws.length:=⟨_,rfl⟩
 rw[← hn]at hA hw hlen ⊢;have je:Hid (ag.length=n∧ws.length=n):=⟨hlen,hn.symm⟩
 have HA:=uh hA;have wS:=uh hw;have du:((n:Int) !=(n:Int))=false:=by simp
 clear hn hlen hA hw hz hs;go_enter Tryz.func46,Tryz.ntmps46
 go_wp2;go_loop [16] (fun i=>∃ k:Nat,k≤n∧i=.int .i64 k∧Hid (Pl.eV ag ws=Pl.eV (ag.drop k) (ws.drop k))) (fun i=>n - (intOf i).toNat)
 case atStart=>exact⟨0,zN,rfl,rfl⟩
 case round=>
  obtain⟨k,hk,rfl,HI⟩:=hrel;by_cases bd:k<n
  rotate_left
  ·obtain rfl:k=n:=by omega
   have HE:Hid (Pl.gP ag ws=true):=by
    show _=_;rw[HX.out,HI.out,List.drop_of_length_le (by have:=je.out.1;omega),Pl.eV];intro _ _ _ _ h;cases h
   go_wp2;go_ret;rw[HE.out];exact⟨rfl,ae zR _⟩
  have HS:=uh (@Pl.ui ag ws k (by have:=je.out.1;omega) (by have:=je.out.2;omega));obtain⟨z,hz⟩:∃ z,z=ag.getD k 0:=⟨_,rfl⟩
  obtain⟨y,hy⟩:∃ y,y=ws.getD k ⟨#[]⟩:=⟨_,rfl⟩
  have hys:y.size≤maxLen:=by
   have tE:k<ws.length:=by have:=je.out.2;omega
   have e:ws.getD k ⟨#[]⟩=ws[k]:=by simp[tE]
   rw[hy,e];exact qa.out _ (List.getElem_mem tE)
  have LH:1≤z∧z≤6:=by
   have tE:k<ag.length:=by have:=je.out.1;omega
   have e:ag.getD k 0=ag[k]:=by simp[tE]
   rw[hz,e];exact HZ.out _ (List.getElem_mem tE)
  have BP:=uh (fun W=>pf z y W hys LH);rcases HA.out.slice with⟨e0,_⟩|⟨p1,o1,R6,fy,sq,_,vs1,oM,mL⟩
  ·omega
  rcases wS.out.slice with⟨e0,_⟩|⟨p2,o2,MO,iI,wQ,fK,vs2,mF,eR⟩
  ·omega
  have MD:=fK.1;unfold maxLen at MD;clear fK;injection fy with g1 _ g3
  injection iI with k1 _ k3
  subst g1;subst g3;subst k1;subst k3;obtain⟨ve1,N8,fo⟩:=mL.el bd oM;obtain⟨ve2,LG,ny⟩:=eR.el bd mF;have E5:el 1 k (ag.map Dt.i)=[.i z]:=by rw[hz];exact gO 0 Dt.i ag k (by have:=je.out.1;omega)
  have EH:el 1 k (txD ws)=[.s y]:=by rw[hy];exact gO ⟨#[]⟩ Dt.s ws k (by have:=je.out.2;omega)
  have ET:Raw w [.i] [.i z] ve1:=by rw[← E5];exact N8
  have Fj:Raw w [.s] [.s y] ve2:=by rw[← EH];exact LG
  obtain rfl:=Cv ET;obtain rfl:=zj Fj;have y1:w.cell? ⟨p1,o1+k,none⟩=some (.int .i64 z):=by have:=aE fo 0 _ rfl;simpa using this
  have y2:w.cell? ⟨p2,o2+k,none⟩=some (.string y):=by have:=aE ny 0 _ rfl;simpa using this
  have z1:(w.alloc (.cells #[.string x,.slice (some ⟨p1,o1,none⟩) n c1,.bool m,v3] 96)).cell? ⟨p1,o1+k,none⟩=some (.int .i64 z):=((ae zR _).cell (p:=⟨p1,o1+k,none⟩) sq).trans y1;have z2:(w.alloc (.cells #[.string x,.slice (some ⟨p1,o1,none⟩) n c1,.bool m,v3] 96)).cell? ⟨p2,o2+k,none⟩=some (.string y):=((ae zR _).cell (p:=⟨p2,o2+k,none⟩) wQ).trans y2;clear y1 y2;rw[← hz,← hy]at HS;obtain⟨b,ot⟩:∃ b,b=Pl.dV z y:=⟨_,rfl⟩
  rw[← ot]at HS;have HC:Hid (∀ W,Calls Tryz.prog 72 #[.int .i64 z,.string y] W fun e w'=>e=.returned (.bool b)∧W=w'):=by rw[ot];exact BP.out
  have ec:(0:Int)≤(k:Int):=by omega
  have dP:(k:Int)<(n:Int):=by omega
  clear mL eR oM mF N8 LG ET Fj E5 EH fo ny hz hy ot BP sq wQ hys LH;cases b
  ·have HE:Hid (Pl.gP ag ws=false):=by show _=_;rw[HX.out,HI.out,HS.out];rfl
   go_wp2_with (go_at_call 72;refine(HC.out _).mono ?_;rintro e w' ⟨rfl,rfl⟩)
   go_ret;rw[HE.out];exact⟨rfl,ae zR _⟩
  ·have HN:Hid (Pl.eV ag ws=Pl.eV (ag.drop (k+1)) (ws.drop (k+1))):=by show _=_;rw[HI.out,HS.out];rfl
   go_wp2_with (go_at_call 72;refine(HC.out _).mono ?_;rintro e w' ⟨rfl,rfl⟩)
   go_round
   case rel=>exact⟨k+1,by omega,by go_num,HN⟩
   case measure=>simp[intOf];omega
theorem xB (l:List Pl.Ru) (va:Option Addr) (vc:Nat) (key:ByteArray) (w:World) (hl:l.length≤100) (h:Raw w [.row 96 aF] [cQ l] [.slice va l.length vc]):
  Calls Tryz.prog 71 #[.agg #[.slice va l.length vc],.string key] w fun e w'=>e=.returned (.int .i64 (Pl.ixI (Pl.bC l key)))∧Bel w w':=by
 obtain⟨wa,aZ⟩:∃ wa,wa=(w.alloc (.cells #[.slice va l.length vc] 64)).alloc (.cells #[.string key] 9):=⟨_,rfl⟩
 have HB:Hid (Bel w wa):=by show Below _ _ _;rw[aZ];exact ae (ae zR _) _
 have x0:wa.cell? ⟨w.heap.size,0,none⟩=some (.slice va l.length vc):=by rw[aZ];exact((aS.new w #[.slice va l.length vc] 64 _ rfl).lf _).get 0 _ rfl
 have HK:aS wa (w.heap.size+1) [.string key]:=by rw[aZ];exact aS.new _ #[.string key] _ _ (by simp)
 have HC:=uh (Gs l va vc key (w.heap.size+1) wa hl (h.later HB.out) (HK.get 0 _ rfl) HK.lt);have z:w.heap.size<wa.heap.size:=by rw[aZ];simp;omega
 clear h HK;go_enter Tryz.func71,Tryz.ntmps71
 go_upto_region 1 with fail
 rw[← aZ];clear aZ;go_wp2_with (go_at_call 92;refine HC.out.mono ?_;rintro e w' ⟨rfl,hb⟩)
 go_ret;exact⟨rfl,ah HB.out hb⟩
def lB (l:List Pl.Ru) (key:ByteArray) (W:World) (e:Ending):Prop:=match Pl.bC l key with
 |none=>e=.returned (.tuple #[.agg #[.string ⟨#[]⟩,.slice none 0 0,.bool false,.slice none 0 0],.bool false])
 |some j=>∃ a1 c1 a3 c3,e=.returned (.tuple #[.agg #[.string (l.getD j Pl.bq).key,.slice a1 (l.getD j Pl.bq).args.length c1,.bool (l.getD j Pl.bq).many,.slice a3 (l.getD j Pl.bq).dflt.length c3],.bool true])∧
   Raw W [.row 3 [.i]] [.row (l.getD j Pl.bq).args.length ((l.getD j Pl.bq).args.map .i)] [.slice a1 (l.getD j Pl.bq).args.length c1]∧
   Raw W [.row 9 [.s]] [.row (l.getD j Pl.bq).dflt.length (txD (l.getD j Pl.bq).dflt)] [.slice a3 (l.getD j Pl.bq).dflt.length c3]
theorem IW (l:List Pl.Ru) (va:Option Addr) (vc:Nat) (key:ByteArray) (w0 w:World) (wR:Bel w0 w) (hl:l.length≤100) (h:Raw w0 [.row 96 aF] [cQ l] [.slice va l.length vc]):
  Calls Tryz.prog 45 #[.agg #[.slice va l.length vc],.string key] w fun e w'=>lB l key w0 e∧Bel w w':=by
 obtain⟨wa,aZ⟩:∃ wa,wa=(w.alloc (.cells #[.slice va l.length vc] 64)).alloc (.cells #[.string ⟨#[]⟩,.slice none 0 0,.bool false,.slice none 0 0] 96):=⟨_,rfl⟩
 have HB:Hid (Bel w wa):=by show Below _ _ _;rw[aZ];exact ae (ae zR _) _
 have HK:aS wa w.heap.size [.slice va l.length vc]:=by rw[aZ];exact(aS.new w #[.slice va l.length vc] 64 _ rfl).lf _
 have vW:Hid (al wa (w.heap.size+1) 96 [.string ⟨#[]⟩,.slice none 0 0,.bool false,.slice none 0 0]):=by show al _ _ _ _;rw[aZ];exact al.new (w.alloc (.cells #[.slice va l.length vc] 64)) [.string ⟨#[]⟩,.slice none 0 0,.bool false,.slice none 0 0] 96 _ (by simp)
 have HC:=uh (xB l va vc key wa hl (h.later (ah wR HB.out)));have HR:=uh h;have kz:=uh wR;have Qj:=uh HK;have x0:=HK.get 0 _ rfl;have xl:=HK.lt;obtain⟨b0,cd⟩:∃ b0,b0=w.heap.size:=⟨_,rfl⟩
 have kW:=uh cd;clear h HK wR;go_enter Tryz.func45,Tryz.ntmps45
 go_upto_region 1 with fail
 rw[← aZ];clear aZ;rw[← cd]at vW Qj x0 xl;rw[← cd];clear cd;go_wp2_with fail
 refine HC.out.mono ?_;rintro e w1 ⟨rfl,hb⟩;have x1:=(Qj.out.later hb).get 0 _ rfl;have xl1:=(Qj.out.later hb).lt;have iL:=uh (vW.out.later hb);have gE:Hid (Bel w w1):=ah HB.out hb;clear hb HC vW Qj x0 xl;cases lL:Pl.bC l key with
 |none=>
  have Jk:Pl.ixI none= -1:=rfl;rw[Jk];clear Jk;have HX:Hid (∀ e,e=.returned (.tuple #[.agg #[.string ⟨#[]⟩,.slice none 0 0,.bool false,.slice none 0 0],.bool false])→lB l key w0 e):=fun e he=>by unfold lB;rw[lL];exact he
  have wG:w1.there (b0+1) 0 (#[.string ⟨#[]⟩,.slice none 0 0,.bool false,.slice none 0 0]:Array Value).size:=aR (iL.out).own _ _ (by simp);obtain⟨L1,xZ⟩:∃ L1,L1=w1.setCells (b0+1) 0 [.string ⟨#[]⟩,.slice none 0 0,.bool false,.slice none 0 0]:=⟨_,rfl⟩
  have nQ:=uh xZ;have oM:L1.rangeAt (b0+1) 0 [.string ⟨#[]⟩,.slice none 0 0,.bool false,.slice none 0 0]:=by rw[xZ];exact World.rangeAt_setCells_same _ _ _ _ wG
  clear xZ lL;go_wp2_with (refine wpList_store_mid rfl 96 _ _ rfl (b0+1) 0 #[.string ⟨#[]⟩,.slice none 0 0,.bool false,.slice none 0 0] rfl rfl wG (by kernel_rfl) (by simp[Value.oneCell']) ?_;first|rw[← nQ.out]|(simp only[List.toList_toArray];rw[← nQ.out]))
  try simp only[Act.put,List.setIfInBounds_toArray,List.set_cons_zero,List.set_cons_succ]
  refine bodyPost_ret (v:=.tuple #[.agg #[.string ⟨#[]⟩,.slice none 0 0,.bool false,.slice none 0 0],.bool false]) (by simp[results,Tryz.results45,asAddr,run_loadVar_mid (P:=Tryz.prog) _ _ _ 96 [.string ⟨#[]⟩,.slice none 0 0,.bool false,.slice none 0 0] _ oM Tryz.underlying96 rfl (by kernel_rfl)]) rfl ?_;rw[nQ.out];exact⟨HX.out _ rfl,da (by have:=kW.out;omega) _ _ _ gE.out⟩
 |some j=>
  have hj:=Pl.iZ lL;have Jk:Pl.ixI (some j)=(j:Int):=rfl;rw[Jk];clear Jk;have Fs:(0:Int)≤(j:Int):=by omega
  have lJ:(j:Int)<(l.length:Int):=by omega
  obtain⟨p,o,c,a1,c1,v3,hv,hp,hg,hA,hD⟩:=jV HR.out hj;injection hv with e1 _ e3
  subst e1;subst e3;obtain⟨a3,c3,e5⟩:=hD.bm;subst e5;have HX:Hid (∀ e,e=.returned (.tuple #[.agg #[.string (l.getD j Pl.bq).key,.slice a1 (l.getD j Pl.bq).args.length c1,.bool (l.getD j Pl.bq).many,.slice a3 (l.getD j Pl.bq).dflt.length c3],.bool true])→lB l key w0 e):=fun e he=>by unfold lB;rw[lL];exact⟨_,_,_,_,he,hA,hD⟩
  have HG:=uh (aB hg hp (ah kz.out gE.out));clear hg hA hD lL;obtain⟨r0,h0⟩:∃ r0,r0=(l.getD j Pl.bq).key:=⟨_,rfl⟩
  obtain⟨n1,h1⟩:∃ n1,n1=(l.getD j Pl.bq).args.length:=⟨_,rfl⟩
  obtain⟨m,h2⟩:∃ m,m=(l.getD j Pl.bq).many:=⟨_,rfl⟩
  obtain⟨n3,h3⟩:∃ n3,n3=(l.getD j Pl.bq).dflt.length:=⟨_,rfl⟩
  rw[← h0,← h1,← h2,← h3]at HX HG;clear h0 h1 h2 h3;have wG:w1.there (b0+1) 0 (#[.string r0,.slice a1 n1 c1,.bool m,.slice a3 n3 c3]:Array Value).size:=aR (iL.out).own _ _ (by simp);obtain⟨L1,xZ⟩:∃ L1,L1=w1.setCells (b0+1) 0 [.string r0,.slice a1 n1 c1,.bool m,.slice a3 n3 c3]:=⟨_,rfl⟩
  have nQ:=uh xZ;have oM:L1.rangeAt (b0+1) 0 [.string r0,.slice a1 n1 c1,.bool m,.slice a3 n3 c3]:=by rw[xZ];exact World.rangeAt_setCells_same _ _ _ _ wG
  clear xZ;go_wp2_with (first|(refine wpList_load_mid rfl 96 _ rfl p (o+j*4) rfl [.string r0,.slice a1 n1 c1,.bool m,.slice a3 n3 c3] _ HG.out Tryz.underlying96 rfl (by kernel_rfl) ?_)|(refine wpList_store_mid rfl 96 _ _ rfl (b0+1) 0 #[.string r0,.slice a1 n1 c1,.bool m,.slice a3 n3 c3] rfl rfl wG (by kernel_rfl) (by simp[Value.oneCell']) ?_;first|rw[← nQ.out]|(simp only[List.toList_toArray];rw[← nQ.out])))
  try simp only[Act.put,List.setIfInBounds_toArray,List.set_cons_zero,List.set_cons_succ]
  refine bodyPost_ret (v:=.tuple #[.agg #[.string r0,.slice a1 n1 c1,.bool m,.slice a3 n3 c3],.bool true]) (by simp[results,Tryz.results45,asAddr,run_loadVar_mid (P:=Tryz.prog) _ _ _ 96 [.string r0,.slice a1 n1 c1,.bool m,.slice a3 n3 c3] _ oM Tryz.underlying96 rfl (by kernel_rfl)]) rfl ?_;rw[nQ.out];exact⟨HX.out _ rfl,da (by have:=kW.out;omega) _ _ _ gE.out⟩
def dp (l:List Pl.Ru) (x y:Pl.Ln):Int:=fC (dz (Pl.ixI (Pl.bC l x.key)) (Pl.ixI (Pl.bC l y.key))) (cG x.ws y.ws)
def KF (b0:Nat) (vc:Nat) (c1:Nat) (c2:Nat) (va:Option Addr) (a1:Option Addr) (a2:Option Addr) (l:List Pl.Ru) (x:Pl.Ln) (y:Pl.Ln):Nat→Value→World→Prop
 |0,vv,_|4,vv,_=>vv=.agg #[.slice va l.length vc]
 |1,vv,_=>vv=.pointer (some ⟨(b0+1),0,none⟩)
 |2,vv,_=>vv=.string x.key
 |3,vv,_=>vv=.int .i64 (Pl.ixI (Pl.bC l x.key))
 |5,vv,_=>vv=.pointer (some ⟨(b0+2),0,none⟩)
 |6,vv,_=>vv=.string y.key
 |7,vv,_=>vv=.int .i64 (Pl.ixI (Pl.bC l y.key))
 |8,vv,_=>vv=.int .i64 (dz (Pl.ixI (Pl.bC l x.key)) (Pl.ixI (Pl.bC l y.key)))
 |9,vv,_=>vv=.pointer (some ⟨(b0+1),1,none⟩)
 |10,vv,_=>vv=.slice a1 x.ws.length c1
 |11,vv,_=>vv=.pointer (some ⟨(b0+2),1,none⟩)
 |12,vv,_=>vv=.slice a2 y.ws.length c2
 |13,vv,_=>vv=.int .i64 (cG x.ws y.ws)
 |14,vv,W=>∃ g,vv=.slice (some ⟨g,0,none⟩) 2 2∧W.cell? ⟨g,0,none⟩=some (.int .i64 (dz (Pl.ixI (Pl.bC l x.key)) (Pl.ixI (Pl.bC l y.key))))∧W.cell? ⟨g,1,none⟩=some (.int .i64 (cG x.ws y.ws))∧g<W.heap.size
 |15,vv,_|16,vv,_=>vv=.int .i64 (dp l x y)
 |_,_,_=>True
theorem Ab (b0:Nat) (vc:Nat) (c1:Nat) (c2:Nat) (va:Option Addr) (a1:Option Addr) (a2:Option Addr) (l:List Pl.Ru) (x:Pl.Ln) (y:Pl.Ln):∀ jj vv W W',Bel W W'→KF b0 vc c1 c2 va a1 a2 l x y jj vv W→KF b0 vc c1 c2 va a1 a2 l x y jj vv W':=by
 intro jj vv W W' hb h;match jj with
 |0|1|2|3|4|5|6|7|8|9|10|11|12|13|15|16=>exact h
 |14=>
  obtain⟨g,h1,h2,h3,h4⟩:=h;exact⟨g,h1,(hb.cell (p:=⟨g,0,none⟩) h4).trans h2,(hb.cell (p:=⟨g,1,none⟩) h4).trans h3,zL h4 hb.size⟩
 |n+17=>exact trivial
theorem xq (l:List Pl.Ru) (va:Option Addr) (vc:Nat) (x y:Pl.Ln) (a1 a2:Option Addr) (c1 c2:Nat) (w:World) (hl:l.length≤100) (h:Raw w [.row 96 aF] [cQ l] [.slice va l.length vc]) (hx:Raw w bB [.row x.ws.length (txD x.ws)] [.slice a1 x.ws.length c1]) (hy:Raw w bB [.row y.ws.length (txD y.ws)] [.slice a2 y.ws.length c2]):
  Calls Tryz.prog 49 #[.agg #[.slice va l.length vc],.agg #[.string x.key,.slice a1 x.ws.length c1],.agg #[.string y.key,.slice a2 y.ws.length c2]] w fun e w'=>e=.returned (.int .i64 (dp l x y))∧Bel w w':=by
 obtain⟨wa,aZ⟩:∃ wa,wa=((w.alloc (.cells #[.slice va l.length vc] 64)).alloc (.cells #[.string x.key,.slice a1 x.ws.length c1] 46)).alloc (.cells #[.string y.key,.slice a2 y.ws.length c2] 46):=⟨_,rfl⟩
 obtain⟨b0,cd⟩:∃ b0,b0=w.heap.size:=⟨_,rfl⟩
 have HB:Hid (Bel w wa):=by show Below _ _ _;rw[aZ];exact ae (ae (ae zR _) _) _
 have ey:Hid (aS wa b0 [.slice va l.length vc]):=by show aS _ _ _;rw[aZ,cd];exact((aS.new w #[.slice va l.length vc] _ _ rfl).lf _).lf _
 have jm:Hid (aS wa (b0+1) [.string x.key,.slice a1 x.ws.length c1]):=by show aS _ _ _;rw[aZ,cd];exact(aS.new (w.alloc (.cells #[.slice va l.length vc] 64)) #[.string x.key,.slice a1 x.ws.length c1] _ _ (by simp)).lf _
 have tR:Hid (aS wa (b0+2) [.string y.key,.slice a2 y.ws.length c2]):=by show aS _ _ _;rw[aZ,cd];exact aS.new ((w.alloc (.cells #[.slice va l.length vc] 64)).alloc (.cells #[.string x.key,.slice a1 x.ws.length c1] 46)) #[.string y.key,.slice a2 y.ws.length c2] _ _ (by simp)
 have g9:=uh (h.later HB.out);have B8:=uh (hx.later HB.out);have HYW:=uh (hy.later HB.out);have HL:=uh hl;clear h hx hy hl;go_enter Tryz.func49,Tryz.ntmps49
 go_upto_region 1 with fail
 rw[← aZ,← cd];clear aZ cd;refine RY.cA wa zR (KF b0 vc c1 c2 va a1 a2 l x y) (Ab _ _ _ _ _ _ _ _ _ _) (by kernel_rfl) (by kernel_rfl) (by kernel_rfl) (by kernel_rfl) ?_ ?_
 ·intro ii o' ho a X hX hk hd;have zb0:=ey.out.later hX;have zb0l:=zb0.lt;have z_b0___1_:=jm.out.later hX;have z_b0___1_l:=z_b0___1_.lt;have z_b0___2_:=tR.out.later hX;have z_b0___2_l:=z_b0___2_.lt;match ii,ho with
  |0,rfl|4,rfl=>
   have v3:a.eval (.tmp 3)=.pointer (some ⟨b0,0,none⟩):=(hk 3 (by kernel_rfl)).trans rfl;exact Or.inl ⟨_,X,ar 64 _ rfl b0 0 v3 [.slice va l.length vc] _ zb0.at_ Tryz.underlying64 rfl (by kernel_rfl),zR,rfl⟩
  |1,rfl=>
   exact RY.p (.pointer (some ⟨(b0+1),0,none⟩)) (by simp[execOp,go_sem,RY.K hk 4 (.pointer (some ⟨(b0+1),0,none⟩))])
  |2,rfl=>
   have e8:=RY.E hd 1 8;have ycl_:=z_b0___1_.get 0 _ rfl;exact RY.p (.string x.key) (by simp[execOp,go_sem,e8,ycl_])
  |3,rfl=>
   have e7:=RY.E hd 0 7;have e9:=RY.E hd 2 9;refine Or.inr ⟨71,#[.agg #[.slice va l.length vc],.string x.key],by simp[go_sem,e7,e9],(xB l va vc x.key X HL.out (g9.out.later hX)).mono ?_⟩;rintro e W' ⟨rfl,hb⟩;exact⟨_,rfl,hb,rfl⟩
  |5,rfl=>
   exact RY.p (.pointer (some ⟨(b0+2),0,none⟩)) (by simp[execOp,go_sem,RY.K hk 5 (.pointer (some ⟨(b0+2),0,none⟩))])
  |6,rfl=>
   have e12:=RY.E hd 5 12;have ycl_:=z_b0___2_.get 0 _ rfl;exact RY.p (.string y.key) (by simp[execOp,go_sem,e12,ycl_])
  |7,rfl=>
   have e11:=RY.E hd 4 11;have e13:=RY.E hd 6 13;refine Or.inr ⟨71,#[.agg #[.slice va l.length vc],.string y.key],by simp[go_sem,e11,e13],(xB l va vc y.key X HL.out (g9.out.later hX)).mono ?_⟩;rintro e W' ⟨rfl,hb⟩;exact⟨_,rfl,hb,rfl⟩
  |8,rfl=>
   have e10:=RY.E hd 3 10;have e14:=RY.E hd 7 14;refine Or.inr ⟨73,#[.int .i64 (Pl.ixI (Pl.bC l x.key)),.int .i64 (Pl.ixI (Pl.bC l y.key))],by simp[go_sem,e10,e14],(QU (Pl.ixI (Pl.bC l x.key)) (Pl.ixI (Pl.bC l y.key)) X).mono ?_⟩;rintro e W' ⟨rfl,rfl⟩;exact⟨_,rfl,zR,rfl⟩
  |9,rfl=>
   exact RY.p (.pointer (some ⟨(b0+1),1,none⟩)) (by simp[execOp,go_sem,RY.K hk 4 (.pointer (some ⟨(b0+1),0,none⟩))])
  |10,rfl=>
   have e16:=RY.E hd 9 16;have ycl_:=z_b0___1_.get 1 _ rfl;exact RY.p (.slice a1 x.ws.length c1) (by simp[execOp,go_sem,e16,ycl_])
  |11,rfl=>
   exact RY.p (.pointer (some ⟨(b0+2),1,none⟩)) (by simp[execOp,go_sem,RY.K hk 5 (.pointer (some ⟨(b0+2),0,none⟩))])
  |12,rfl=>
   have e18:=RY.E hd 11 18;have ycl_:=z_b0___2_.get 1 _ rfl;exact RY.p (.slice a2 y.ws.length c2) (by simp[execOp,go_sem,e18,ycl_])
  |13,rfl=>
   have e17:=RY.E hd 10 17;have e19:=RY.E hd 12 19;refine Or.inr ⟨74,#[.slice a1 x.ws.length c1,.slice a2 y.ws.length c2],by simp[go_sem,e17,e19],(J2 x.ws y.ws _ _ X (B8.out.later hX) (HYW.out.later hX)).mono ?_⟩;rintro e W' ⟨rfl,rfl⟩;exact⟨_,rfl,zR,rfl⟩
  |14,rfl=>
   exact Or.inl ⟨.slice (some ⟨X.heap.size,0,none⟩) 2 2,X.alloc (.cells #[.int .i64 (dz (Pl.ixI (Pl.bC l x.key)) (Pl.ixI (Pl.bC l y.key))),.int .i64 (cG x.ws y.ws)] 3),by simp[execOp,go_sem,RY.E hd 8 15,RY.E hd 13 20],ae zR _,X.heap.size,rfl,World.cell?_alloc_at _ _ _ _ rfl,World.cell?_alloc_at _ _ _ _ rfl,by simp⟩
  |15,rfl=>
   obtain⟨g21,q21,qa21,qb21,_⟩:=hd 14 _ 21 rfl rfl ⟨⟨14,.data⟩,by simp,rfl,rfl⟩;have e21:a.tmps[21]?.getD undef=.slice (some ⟨g21,0,none⟩) 2 2:=(RY.af a 21).trans q21;refine Or.inr ⟨41,#[.slice (some ⟨g21,0,none⟩) 2 2],by simp[go_sem,e21],(CH g21 2 (dz (Pl.ixI (Pl.bC l x.key)) (Pl.ixI (Pl.bC l y.key))) (cG x.ws y.ws) X qa21 qb21).mono ?_⟩;rintro e W' ⟨rfl,rfl⟩;exact⟨_,rfl,zR,rfl⟩
  |16,rfl=>
   exact RY.p (.int .i64 (dp l x y)) (by simp[execOp,go_sem,RY.E hd 15 22])
  |n+17,ho=>simp at ho
 intro X vs hX bg;have q6:vs 6=_:=bg 16 _ 6 rfl rfl;simp only[RY.aC,Act.put,List.setIfInBounds_toArray,List.set_cons_zero,List.set_cons_succ];rw[q6];generalize vs 7=s7,vs 8=s8,vs 9=s9,vs 10=s10,vs 11=s11,vs 12=s12,vs 13=s13,vs 14=s14,vs 15=s15,vs 16=s16,vs 17=s17,vs 18=s18,vs 19=s19,vs 20=s20,vs 21=s21,vs 22=s22;clear bg q6;go_wp2;go_ret;exact⟨rfl,ah HB.out hX⟩
def rM (l:List Pl.Ru) (L:List Pl.Ln):Bool:=(List.range (L.length - 1)).all fun i=>decide (dp l (L.getD i Pl.aK) (L.getD (i+1) Pl.aK)<0)
theorem JU (l:List Pl.Ru) (va:Option Addr) (vc:Nat) (Bq:l.length≤100) (L:List Pl.Ln) (v:Value) (w:World) (wL:Raw w [.row 96 aF] [cQ l] [.slice va l.length vc]) (h:Raw w bF [bT L] [v]):
  Calls Tryz.prog 48 #[v,.func (.func 49) #[.agg #[.slice va l.length vc]] #[]] w fun e w'=>e=.returned (.bool (rM l L))∧Bel w w':=by
 have HH:=uh h;have nC:=uh wL;obtain⟨a,c,ev⟩:=h.bm;subst ev;have hl:L.length≤maxLen:=by
  rcases cE h with⟨e,_⟩|⟨_,_,_,_,_,e,_⟩
  ·omega
  ·exact e
 unfold maxLen at hl;obtain⟨R,hR⟩:∃ R,R=rM l L:=⟨_,rfl⟩
 have HR:Hid (R=rM l L):=hR;rw[← hR];clear h hR wL;go_enter Tryz.func48,Tryz.ntmps48
 go_wp2;go_loopw [5] (fun i wr=>∃ j:Nat,j≤L.length - 1∧i=.int .i64 ((j+1:Nat):Int)∧(List.range j).all (fun i=>decide (dp l (L.getD i Pl.aK) (L.getD (i+1) Pl.aK)<0))=true∧Bel w wr) (fun i _=>L.length - (intOf i).toNat)
 case atStart=>exact⟨0,zN,rfl,rfl,zR⟩
 case round=>
  obtain⟨j,hj,rfl,hq,hW⟩:=hrel;have HQ:=uh hq;clear hq;by_cases bd:j+1<L.length
  ·obtain⟨x,hx⟩:∃ x,x=L.getD j Pl.aK:=⟨_,rfl⟩
   obtain⟨y,hy⟩:∃ y,y=L.getD (j+1) Pl.aK:=⟨_,rfl⟩
   have p7:=uh hW.drew;rcases cE (HH.out.later hW.drew) with⟨e0,_⟩|⟨p,o,c',hv,hp,_,aO⟩
   ·omega
   injection hv with g1 _ g3
   subst g1;subst g3;obtain⟨ax,cx,jf,fe⟩:=aO j (by omega);obtain⟨ay,cy,nx,qP⟩:=aO (j+1) bd;rw[← hx]at jf fe;rw[← hy]at nx qP;have x0:wr.drew.cell? ⟨p,o+j*2,none⟩=some (.string x.key):=aE jf 0 _ rfl;have x1:wr.drew.cell? ⟨p,o+j*2+1,none⟩=some (.slice ax x.ws.length cx):=aE jf 1 _ rfl;have y0:wr.drew.cell? ⟨p,o+(j+1)*2,none⟩=some (.string y.key):=aE nx 0 _ rfl;have y1:wr.drew.cell? ⟨p,o+(j+1)*2+1,none⟩=some (.slice ay y.ws.length cy):=aE nx 1 _ rfl;clear hW aO jf nx;obtain⟨r,hr⟩:∃ r,r=dp l x y:=⟨_,rfl⟩
   have oB:Hid (∀ W,Bel w W→Below wr.drew.heap.size wr.drew W→Calls Tryz.prog 49 #[.agg #[.slice va l.length vc],.agg #[.string x.key,.slice ax x.ws.length cx],.agg #[.string y.key,.slice ay y.ws.length cy]] W fun e w'=>e=.returned (.int .i64 r)∧Bel W w'):=fun W hb=>by
    rw[hr];exact fun h2=>xq l va vc x y ax ay cx cy W Bq (nC.out.later hb) (fe.later h2) (qP.later h2)
   have HP:Hid ((fun i=>decide (dp l (L.getD i Pl.aK) (L.getD (i+1) Pl.aK)<0)) j=decide (r<0)):=by show _=_;rw[hr,hx,hy]
   clear hr hx hy fe qP;by_cases hz:r<0
   ·have HE:=uh (Pl.eJ HQ.out (HP.out.trans (decide_eq_true hz)));go_wp2_with fail
    refine cT 10 (by kernel_rfl) (by kernel_rfl) ?_;intro W nJ;rw[← nJ]at hp p7 x0 x1 y0 y1;simp only[List.take_succ_cons,List.take_zero,List.drop_succ_cons,List.drop_zero];have BC:Hid (W=wr.drew):=nJ;clear nJ;have Fs:(0:Int)≤(j:Int):=by omega
    have BB:(j:Int)<(L.length:Int):=by omega
    have Ji:(0:Int)≤(j:Int)+1:=by omega
    have Ox:(j:Int)+1<(L.length:Int):=by omega
    have Rx:IntKind.i64.wrap (j:Int)=(j:Int):=fI _ (by omega) (by omega);have HX:=uh (oB.out W p7.out (by rw[BC.out];exact zR));repeat still_step
    refine wpStill_nil ?_;go_wp2_with (go_at_call 49;refine HX.out.mono ?_;rintro e w2 ⟨rfl,eD⟩)
    go_roundw
    case rel=>exact⟨j+1,by omega,by go_num,HE.out,ah p7.out eD⟩
    case measure=>simp[intOf];omega
   ·have HE:Hid (R=false):=by show _=_;rw[HR.out];exact Pl.fv (k:=j) (by omega) (HP.out.trans (decide_eq_false hz))
    go_wp2_with fail
    refine cT 10 (by kernel_rfl) (by kernel_rfl) ?_;intro W nJ;rw[← nJ]at hp p7 x0 x1 y0 y1;simp only[List.take_succ_cons,List.take_zero,List.drop_succ_cons,List.drop_zero];have BC:Hid (W=wr.drew):=nJ;clear nJ;have Fs:(0:Int)≤(j:Int):=by omega
    have BB:(j:Int)<(L.length:Int):=by omega
    have Ji:(0:Int)≤(j:Int)+1:=by omega
    have Ox:(j:Int)+1<(L.length:Int):=by omega
    have Rx:IntKind.i64.wrap (j:Int)=(j:Int):=fI _ (by omega) (by omega);have HX:=uh (oB.out W p7.out (by rw[BC.out];exact zR));repeat still_step
    refine wpStill_nil ?_;go_wp2_with (go_at_call 49;refine HX.out.mono ?_;rintro e w2 ⟨rfl,eD⟩)
    go_ret;exact⟨Pl.aq HE.out.symm,ah p7.out eD⟩
  ·have HE:Hid (R=true):=by
    show R=true;rw[HR.out];have:j=L.length - 1:=by omega
    rw[this]at HQ;exact HQ.out
   go_wp2;go_ret;exact⟨Pl.aq HE.out.symm,hW⟩
def na  (L:List Pl.Bl):Bool:=(List.range (L.length - 1)).all fun i=>decide (dm (L.getD i Pl.aN) (L.getD (i+1) Pl.aN)<0)
theorem JW  (L:List Pl.Bl) (v:Value) (w:World) (h:Raw w bu [bD L] [v]):
  Calls Tryz.prog 22 #[v,.func (.func 23) #[] #[]] w fun e w'=>e=.returned (.bool (na L))∧Bel w w':=by
 have HH:=uh h;obtain⟨a,c,ev⟩:=h.bm;subst ev;have hl:L.length≤maxLen:=by
  rcases db h with⟨e,_⟩|⟨_,_,_,_,_,e,_⟩
  ·omega
  ·exact e
 unfold maxLen at hl;obtain⟨R,hR⟩:∃ R,R=na L:=⟨_,rfl⟩
 have HR:Hid (R=na L):=hR;rw[← hR];clear h hR;go_enter Tryz.func22,Tryz.ntmps22
 go_wp2;go_loopw [5] (fun i wr=>∃ j:Nat,j≤L.length - 1∧i=.int .i64 ((j+1:Nat):Int)∧(List.range j).all (fun i=>decide (dm (L.getD i Pl.aN) (L.getD (i+1) Pl.aN)<0))=true∧Bel w wr) (fun i _=>L.length - (intOf i).toNat)
 case atStart=>exact⟨0,zN,rfl,rfl,zR⟩
 case round=>
  obtain⟨j,hj,rfl,hq,hW⟩:=hrel;have HQ:=uh hq;clear hq;by_cases bd:j+1<L.length
  ·obtain⟨x,hx⟩:∃ x,x=L.getD j Pl.aN:=⟨_,rfl⟩
   obtain⟨y,hy⟩:∃ y,y=L.getD (j+1) Pl.aN:=⟨_,rfl⟩
   have p7:=uh hW.drew;rcases db (HH.out.later hW.drew) with⟨e0,_⟩|⟨p,o,c',hv,hp,_,aO⟩
   ·omega
   injection hv with g1 _ g3
   subst g1;subst g3;obtain⟨ax,cx,jf,fe⟩:=aO j (by omega);obtain⟨ay,cy,nx,qP⟩:=aO (j+1) bd;rw[← hx]at jf fe;rw[← hy]at nx qP;have x0:wr.drew.cell? ⟨p,o+j*3,none⟩=some (.string x.kind):=aE jf 0 _ rfl;have x1:wr.drew.cell? ⟨p,o+j*3+1,none⟩=some (.string x.name):=aE jf 1 _ rfl;have x2:wr.drew.cell? ⟨p,o+j*3+2,none⟩=some (.slice ax x.lines.length cx):=aE jf 2 _ rfl;have y0:wr.drew.cell? ⟨p,o+(j+1)*3,none⟩=some (.string y.kind):=aE nx 0 _ rfl;have y1:wr.drew.cell? ⟨p,o+(j+1)*3+1,none⟩=some (.string y.name):=aE nx 1 _ rfl;have y2:wr.drew.cell? ⟨p,o+(j+1)*3+2,none⟩=some (.slice ay y.lines.length cy):=aE nx 2 _ rfl;clear hW aO jf nx;obtain⟨r,hr⟩:∃ r,r=dm x y:=⟨_,rfl⟩
   have oB:Hid (∀ W,Bel w W→Calls Tryz.prog 23 #[.agg #[.string x.kind,.string x.name,.slice ax x.lines.length cx],.agg #[.string y.kind,.string y.name,.slice ay y.lines.length cy]] W fun e w'=>e=.returned (.int .i64 r)∧Bel W w'):=fun W _=>by rw[hr];exact xb _ _ _ _ _ _ W
   have HP:Hid ((fun i=>decide (dm (L.getD i Pl.aN) (L.getD (i+1) Pl.aN)<0)) j=decide (r<0)):=by show _=_;rw[hr,hx,hy]
   clear hr hx hy fe qP;by_cases hz:r<0
   ·have HE:=uh (Pl.eJ HQ.out (HP.out.trans (decide_eq_true hz)));go_wp2_with fail
    refine cT 10 (by kernel_rfl) (by kernel_rfl) ?_;intro W nJ;rw[← nJ]at hp p7 x0 x1 x2 y0 y1 y2;simp only[List.take_succ_cons,List.take_zero,List.drop_succ_cons,List.drop_zero];clear nJ;have Fs:(0:Int)≤(j:Int):=by omega
    have BB:(j:Int)<(L.length:Int):=by omega
    have Ji:(0:Int)≤(j:Int)+1:=by omega
    have Ox:(j:Int)+1<(L.length:Int):=by omega
    have Rx:IntKind.i64.wrap (j:Int)=(j:Int):=fI _ (by omega) (by omega);have HX:=uh (oB.out W p7.out);repeat still_step
    refine wpStill_nil ?_;go_wp2_with (go_at_call 23;refine HX.out.mono ?_;rintro e w2 ⟨rfl,eD⟩)
    go_roundw
    case rel=>exact⟨j+1,by omega,by go_num,HE.out,ah p7.out eD⟩
    case measure=>simp[intOf];omega
   ·have HE:Hid (R=false):=by show _=_;rw[HR.out];exact Pl.fv (k:=j) (by omega) (HP.out.trans (decide_eq_false hz))
    go_wp2_with fail
    refine cT 10 (by kernel_rfl) (by kernel_rfl) ?_;intro W nJ;rw[← nJ]at hp p7 x0 x1 x2 y0 y1 y2;simp only[List.take_succ_cons,List.take_zero,List.drop_succ_cons,List.drop_zero];clear nJ;have Fs:(0:Int)≤(j:Int):=by omega
    have BB:(j:Int)<(L.length:Int):=by omega
    have Ji:(0:Int)≤(j:Int)+1:=by omega
    have Ox:(j:Int)+1<(L.length:Int):=by omega
    have Rx:IntKind.i64.wrap (j:Int)=(j:Int):=fI _ (by omega) (by omega);have HX:=uh (oB.out W p7.out);repeat still_step
    refine wpStill_nil ?_;go_wp2_with (go_at_call 23;refine HX.out.mono ?_;rintro e w2 ⟨rfl,eD⟩)
    go_ret;exact⟨Pl.aq HE.out.symm,ah p7.out eD⟩
  ·have HE:Hid (R=true):=by
    show R=true;rw[HR.out];have:j=L.length - 1:=by omega
    rw[this]at HQ;exact HQ.out
   go_wp2;go_ret;exact⟨Pl.aq HE.out.symm,hW⟩
end Go.Proofs.YtopjjknojnfhmaaGreatDoor
