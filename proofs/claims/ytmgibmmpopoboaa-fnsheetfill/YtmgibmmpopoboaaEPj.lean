import Derived.Test.YtmgibmmpopoboaaProg
import Derived.RowKit
import Derived.WalkKit
import Derived.WalkSpells
import Derived.WalkLawsBesides
import Derived.StillTailTactics
import Derived.Test.YtmgibmmpopoboaaEIk
import Derived.Test.YtmgibmmpopoboaaEFd
import Derived.Test.YtmgibmmpopoboaaESd
import Derived.Test.YtmgibmmpopoboaaRgG
namespace Go.Proofs.Ytmgibmmpopoboaa
set_option maxHeartbeats 40000000
open Go.RowKit
theorem oQ (s:ByteArray) (w:World) (hs:s.size≤maxLen):
  Calls Try.prog 62 #[.string s] w fun e w'=>e=.returned (.bool (Pl.nameBytes s))∧w=w':=by
 unfold maxLen at hs;go_enter Try.func62,Try.ntmps62
 go_wp2;go_loop [7] (fun i=>∃ k:Nat,k≤s.size∧i=.int .i64 k∧(s.data.toList.take k).all Pl.cr=true) (fun i=>s.size - (intOf i).toNat)
 case atStart=>exact⟨0,zN,rfl,rfl⟩
 case round=>
  obtain⟨k,hk,rfl,bC⟩:=hrel;have HA:Hid ((s.data.toList.take k).all Pl.cr=true):=bC;clear bC;by_cases bN:k<s.size
  ·go_wp2
   all_goals simp only[Bool.not_eq_eq_eq_not,Bool.not_true,Bool.not_false,beq_iff_eq,beq_eq_false_iff_ne,decide_eq_true_eq,decide_eq_false_iff_not]at*
   all_goals first
    |(go_ret
      have hn:Pl.cr s[k]=false:=by rw[Bool.eq_false_iff];simp[Pl.cr];omega
      exact⟨Pl.aB (Pl.all_false _ s k bN hn).symm,rfl⟩)
    |(have hn:Pl.cr s[k]=true:=by simp[Pl.cr];omega
      go_round
      case rel=>exact⟨k+1,by omega,by go_num,by rw[Pl.iQ _ _ _ bN,HA.out,hn];rfl⟩
      case measure=>simp[intOf];omega)
  ·have HF:Hid (Pl.nameBytes s=true):=by
    show Pl.nameBytes s=true;have:=Pl.pL Pl.cr s k (by omega);simp only[Pl.nameBytes,← this,HA.out]
   go_wp2;go_ret;exact⟨Pl.aB HF.out.symm,rfl⟩
theorem kv {a b:Int} {c d:Bool} (h:a=b) (g:c=d):Ending.returned (.tuple #[.int .i64 a,.bool c])=.returned (.tuple #[.int .i64 b,.bool d]):=by rw[h,g]
def gJ (s:ByteArray):Int:=if Pl.dC s then Pl.bu s.data.toList else 0
theorem qq (s:ByteArray) (w:World) (h1:1≤s.size) (h7:s.size≤7) (hl:Pl.lead s=false):
  Calls Try.prog 91 #[.string s] w fun e w'=>e=.returned (.tuple #[.int .i64 (gJ s),.bool (Pl.dC s)])∧w=w':=by
 have JX:=Pl.sD s h1;have HN:Hid (Pl.lead s=false):=hl;have HB:Hid ((s[0].toNat:Int)=48→(s.toList==[48])=true):=by
  intro h0;rw[Pl.vC s (by omega),Pl.na]at hl;have iM:¬ 1<s.size:=by
   intro h2;simp[h2]at hl;omega
  refine Pl.yQ s (by omega) 48 ?_;rw[Pl.qo s (by omega)];have:s[0].toNat=48:=by omega
  exact UInt8.toNat_inj.1 (by simpa using this)
 clear hl;have hd7:decide ((7:Int)<(s.size:Int))=false:=by simp;omega
 have H0:Hid ((((s[0].toNat:Int)==48)=true∧(s.toList==[48])=true)∨((s[0].toNat:Int)==48)=false):=by
  by_cases h0:(s[0].toNat:Int)=48
  ·exact Or.inl ⟨by simp[h0],HB.out h0⟩
  ·exact Or.inr (by simp[h0])
 clear HB;rcases H0.out with⟨h0b,hb⟩|h0b
 all_goals
  clear H0;go_enter Try.func91,Try.ntmps91
  go_wp2;go_loop [4,24] (fun n i=>∃ k:Nat,k≤s.size∧i=.int .i64 k∧n=.int .i64 (Pl.bu (s.data.toList.take k))∧(s.data.toList.take k).all Pl.digit=true) (fun _ i=>s.size - (intOf i).toNat)
  case atStart=>exact⟨0,zN,rfl,rfl,rfl⟩
  case round=>
   obtain⟨k,hk,rfl,rfl,bC⟩:=hrel;have uG:=Pl.kO s k hk (by omega) bC;obtain⟨b1,b2⟩:=uG;have HA:Hid ((s.data.toList.take k).all Pl.digit=true):=bC;clear bC;by_cases bN:k<s.size
   ·have HS:Hid (Pl.bu (s.data.toList.take (k+1))=Pl.bu (s.data.toList.take k)*10+((s[k].toNat:Int) - 48)):=Pl.iR s k bN;by_cases hd:48≤(s[k].toNat:Int)∧(s[k].toNat:Int)≤57
    ·obtain⟨d1,d2⟩:=hd;go_wp2;go_round
     case rel=>exact⟨k+1,by omega,by go_num,by rw[HS.out],by rw[Pl.iQ _ _ _ bN,HA.out];simp[Pl.digit];omega⟩
     case measure=>simp[intOf];omega
    ·have HF:Hid (Pl.dC s=false):=by
      show Pl.dC s=false;have:s.data.toList.all Pl.digit=false:=Pl.all_false _ s k bN (by rw[Bool.eq_false_iff];simp[Pl.digit];omega);simp[Pl.dC,this]
     by_cases BH:48≤(s[k].toNat:Int)
     all_goals
      go_wp2;go_ret2;exact⟨kv (by simp[gJ,HF.out]) HF.out.symm,rfl⟩
   ·have HF:Hid (Pl.dC s=true∧Pl.bu s.data.toList=Pl.bu (s.data.toList.take k)):=by
     show Pl.dC s=true∧Pl.bu s.data.toList=Pl.bu (s.data.toList.take k);have e:s.data.toList.take k=s.data.toList:=List.take_of_length_le (by simp;omega);have ha:=HA.out;rw[e]at ha ⊢;refine⟨?_,rfl⟩;simp[Pl.dC,ha,HN.out];omega
    go_wp2;go_ret2;exact⟨kv (by simp[gJ,HF.out.1,HF.out.2]) HF.out.1.symm,rfl⟩
theorem sP (s:ByteArray) (w:World) (hs:s.size≤maxLen):
  Calls Try.prog 91 #[.string s] w fun e w'=>e=.returned (.tuple #[.int .i64 (gJ s),.bool (Pl.dC s)])∧w=w':=by
 unfold maxLen at hs;by_cases h1:1≤s.size
 ·have JX:=Pl.sD s h1;by_cases h7:s.size≤7
  ·cases hl:Pl.lead s
   ·exact qq s w h1 h7 hl
   ·have HF:Hid (Pl.dC s=false):=by show _=_;simp[Pl.dC,hl]
    have hd7:decide ((7:Int)<(s.size:Int))=false:=by simp;omega
    rw[Pl.vC s (by omega),Pl.na]at hl;simp only[Bool.and_eq_true,decide_eq_true_eq]at hl;obtain⟨h2,h0⟩:=hl;have h0':((s[0].toNat:Int)==48)=true:=h0;have hb:=Pl.uf s h2 48;clear h0;go_enter Try.func91,Try.ntmps91
    go_wp2;go_ret2;exact⟨kv (by simp[gJ,HF.out]) HF.out.symm,rfl⟩
  ·have HF:Hid (Pl.dC s=false):=by show _=_;simp[Pl.dC,h7]
   have hd7:decide ((7:Int)<(s.size:Int))=true:=by simp;omega
   go_enter Try.func91,Try.ntmps91
   go_wp2;go_ret2;exact⟨kv (by simp[gJ,HF.out]) HF.out.symm,rfl⟩
 ·have HF:Hid (Pl.dC s=false):=by show _=_;simp[Pl.dC,h1]
  have JX:=Pl.xr s h1;go_enter Try.func91,Try.ntmps91
  go_wp2;go_ret2;exact⟨kv (by simp[gJ,HF.out]) HF.out.symm,rfl⟩
end Go.Proofs.Ytmgibmmpopoboaa
namespace Go.Proofs.Ytmgibmmpopoboaa
set_option maxRecDepth 8000
set_option maxHeartbeats 40000000
open Go.RowKit Go.Deep
theorem sK (n lo hi:Int) (w:World):
  Calls Try.prog 61 #[.int .i64 n,.int .i64 lo,.int .i64 hi] w fun e w'=>e=.returned (.bool (decide (lo≤n)&&decide (n≤hi)))∧w=w':=by
 by_cases h:lo≤n
 all_goals
  go_enter Try.func61,Try.ntmps61
  go_wp2;go_ret;exact⟨Pl.aB (by rw[Bool.eq_iff_iff];simp;try omega),rfl⟩
theorem iO (s:ByteArray) (w:World) (hs:s.size≤maxLen):
  Calls Try.prog 87 #[.string s] w fun e w'=>e=.returned (.bool (Pl.di s))∧w=w':=by
 have HC:=uh (sP s w hs);have HN:Hid (Pl.di s=(Pl.dC s&&decide (gJ s≤1000000))):=by
  show _=_;unfold Pl.di gJ;cases Pl.dC s<;>simp
 obtain⟨d,hd⟩:∃ d,d=gJ s:=⟨_,rfl⟩
 obtain⟨b,hb⟩:∃ b,b=Pl.dC s:=⟨_,rfl⟩
 rw[← hd,← hb]at HC HN;clear hd hb;go_enter Try.func87,Try.ntmps87
 cases b
 all_goals go_wp2_with (go_at_call 91;refine HC.out.mono ?_;rintro e w' ⟨rfl,rfl⟩)
 all_goals go_ret
 all_goals exact⟨Pl.aB (by rw[HN.out];simp),rfl⟩
theorem kt (s:ByteArray) (w:World) (hs:s.size≤maxLen):
  Calls Try.prog 34 #[.string s] w fun e w'=>e=.returned (.bool (Pl.cd s))∧w=w':=by
 have HC:=uh (oQ s w hs);have HG:=uh (sK s.size 1 20 w);have HN:Hid (Pl.cd s=((decide ((1:Int)≤(s.size:Int))&&decide ((s.size:Int)≤20))&&Pl.nameBytes s)):=by
  show _=_;unfold Pl.cd;congr 1;rw[Bool.eq_iff_iff];simp;omega
 obtain⟨b,hb⟩:∃ b,b=(decide ((1:Int)≤(s.size:Int))&&decide ((s.size:Int)≤20)):=⟨_,rfl⟩
 rw[← hb]at HG HN;clear hb;unfold maxLen at hs;go_enter Try.func34,Try.ntmps34
 cases b
 all_goals go_wp2_with (first|(go_at_call 61;refine HG.out.mono ?_;rintro e w' ⟨rfl,rfl⟩)|(go_at_call 62;refine HC.out.mono ?_;rintro e w' ⟨rfl,rfl⟩))
 all_goals go_ret
 all_goals exact⟨Pl.aB (by rw[HN.out];simp),rfl⟩
def Pl.minus (s:ByteArray):Bool:=decide (1≤s.size)&&(s.data.toList.headD 0==45)
theorem Pl.yW (s:ByteArray) (h:¬ 1≤s.size):Pl.minus s=false:=by unfold Pl.minus;simp[h]
theorem Pl.yV (s:ByteArray) (h:1≤s.size):((s.extract 0 1).toList==[45])=Pl.minus s:=by
 unfold Pl.minus;rw[Pl.tl];have e:(s.extract 0 1).data.toList=s.data.toList.take 1:=by simp[ByteArray.data_extract]
 rw[e];cases hl:s.data.toList with
 |nil=>
  have:=Pl.dY s;rw[hl]at this;simp at this;omega
 |cons c l=>simp[h]
theorem wD (s:ByteArray) (w:World) (hs:s.size≤maxLen):
  Calls Try.prog 95 #[.string s,.string {data:=#[45]}] w fun e w'=>e=.returned (.bool (Pl.minus s))∧w=w':=by
 unfold maxLen at hs;by_cases h1:1≤s.size
 ·have HE:=uh (Pl.yV s h1);have h2:decide ((1:Int)≤(s.size:Int))=true:=by simp;omega
  go_enter Try.func95,Try.ntmps95
  go_wp2;go_ret;exact⟨Pl.aB HE.out,rfl⟩
 ·have HE:=uh (Pl.yW s h1);have h2:decide ((1:Int)≤(s.size:Int))=false:=by simp;omega
  go_enter Try.func95,Try.ntmps95
  go_wp2;go_ret;exact⟨Pl.aB HE.out.symm,rfl⟩
theorem Pl.nA {s:ByteArray} (h:Pl.minus s=true):1≤s.size:=by
 unfold Pl.minus at h;simp at h;exact h.1
def Pl.rest (s:ByteArray):ByteArray:=if Pl.minus s then s.extract 1 s.size else s
theorem xb (s:ByteArray) (w:World) (hs:s.size≤maxLen):
  Calls Try.prog 94 #[.string s,.string {data:=#[45]}] w fun e w'=>e=.returned (.tuple #[.string (Pl.rest s),.bool (Pl.minus s)])∧w=w':=by
 have HC:=uh (wD s w hs);unfold maxLen at hs;cases hm:Pl.minus s
 ·rw[hm]at HC;have HR:Hid (Pl.rest s=s):=by show _=_;unfold Pl.rest;rw[hm];rfl
  go_enter Try.func94,Try.ntmps94
  go_wp2_with (go_at_call 95;refine HC.out.mono ?_;rintro e w' ⟨rfl,rfl⟩)
  go_ret2;rw[HR.out];exact⟨rfl,rfl⟩
 ·have h1:=Pl.nA hm;rw[hm]at HC;have HR:Hid (Pl.rest s=s.extract 1 s.size):=by show _=_;unfold Pl.rest;rw[hm];rfl
  go_enter Try.func94,Try.ntmps94
  go_wp2_with (go_at_call 95;refine HC.out.mono ?_;rintro e w' ⟨rfl,rfl⟩)
  go_ret2;rw[HR.out];exact⟨rfl,rfl⟩
theorem xF (s:ByteArray) (w:World) (hs:s.size≤maxLen):
  Calls Try.prog 92 #[.string s,.string {data:=#[45]}] w fun e w'=>e=.returned (.tuple #[.string (Pl.rest s),.bool (Pl.minus s)])∧w=w':=by
 have HC:=uh (xb s w hs);go_enter Try.func92,Try.ntmps92
 go_wp2_with (go_at_call 94;refine HC.out.mono ?_;rintro e w' ⟨rfl,rfl⟩)
 go_ret2;exact⟨rfl,rfl⟩
theorem Pl.FE (s:ByteArray):Pl.pn s=(Pl.di (Pl.rest s)&& !(Pl.minus s&&((Pl.rest s).toList==[48]))):=by
 unfold Pl.pn Pl.rest;cases hm:Pl.minus s
 ·have:(decide (1<s.size)&&(s.data.toList.headD 0==45))=false:=by
   unfold Pl.minus at hm;rw[Bool.eq_false_iff]at hm ⊢;intro h;apply hm;simp only[Bool.and_eq_true,decide_eq_true_eq]at h ⊢;exact⟨by omega,h.2⟩
  rw[this];simp
 ·have h1:=Pl.nA hm;have Hi:(s.data.toList.headD 0==45)=true:=by unfold Pl.minus at hm;rw[Bool.and_eq_true]at hm;exact hm.2
  have hn:Pl.di s=false:=by
   unfold Pl.di Pl.dC;have:s.data.toList.all Pl.digit=false:=by
    cases hl:s.data.toList with
    |nil=>have:=Pl.dY s;rw[hl]at this;simp at this;omega
    |cons c l=>
     rw[hl]at Hi;simp at Hi;rw[Hi];rfl
   simp[this]
  rw[hn,Hi];by_cases h2:1<s.size
  ·simp[h2,Bool.and_comm]
  ·have e0:(s.extract 1 s.size).size=0:=by simp[ByteArray.size_extract];omega
   have hr:Pl.di (s.extract 1 s.size)=false:=by unfold Pl.di Pl.dC;rw[e0];simp
   simp[h2,hr]
theorem np (s:ByteArray) (w:World) (hs:s.size≤maxLen):
  Calls Try.prog 88 #[.string s] w fun e w'=>e=.returned (.bool (Pl.pn s))∧w=w':=by
 have HC:=uh (xF s w hs);have hr:(Pl.rest s).size≤maxLen:=by
  unfold Pl.rest;split
  ·simp[ByteArray.size_extract];omega
  ·exact hs
 have HN:=uh (iO (Pl.rest s) w hr);have HE:=uh (Pl.FE s);obtain⟨r,xX⟩:∃ r,r=Pl.rest s:=⟨_,rfl⟩
 obtain⟨m,hm⟩:∃ m,m=Pl.minus s:=⟨_,rfl⟩
 obtain⟨b,hb⟩:∃ b,b=Pl.di r:=⟨_,rfl⟩
 rw[← xX,← hm]at HC HE;rw[← xX,← hb]at HN;rw[← hb]at HE;clear xX hm hb hr;go_enter Try.func88,Try.ntmps88
 cases b<;>cases m
 all_goals go_wp2_with (first|(go_at_call 92;refine HC.out.mono ?_;rintro e w' ⟨rfl,rfl⟩)|(go_at_call 87;refine HN.out.mono ?_;rintro e w' ⟨rfl,rfl⟩))
 all_goals go_ret
 all_goals exact⟨Pl.aB (by rw[HE.out];simp),rfl⟩
theorem nR (t:Int) (s:ByteArray) (w:World) (hs:s.size≤maxLen) (ht:1≤t∧t≤6):
  Calls Try.prog 78 #[.int .i64 t,.string s] w fun e w'=>e=.returned (.bool (Pl.dW t s))∧w=w':=by
 have H1:=uh (iO s w hs);have H2:=uh (np s w hs);have H3:=uh (kt s w hs);unfold maxLen at hs;have hc:t=1∨t=2∨t=3∨t=4∨t=5∨t=6:=by omega
 clear ht;rcases hc with rfl|rfl|rfl|rfl|rfl|rfl
 ·go_enter Try.func78,Try.ntmps78
  go_wp2_with (go_at_call 87;refine H1.out.mono ?_;rintro e w' ⟨rfl,rfl⟩)
  go_ret;exact⟨rfl,rfl⟩
 ·go_enter Try.func78,Try.ntmps78
  go_wp2_with (go_at_call 88;refine H2.out.mono ?_;rintro e w' ⟨rfl,rfl⟩)
  go_ret;exact⟨rfl,rfl⟩
 ·go_enter Try.func78,Try.ntmps78
  go_wp2_with (go_at_call 34;refine H3.out.mono ?_;rintro e w' ⟨rfl,rfl⟩)
  go_ret;exact⟨rfl,rfl⟩
 ·go_enter Try.func78,Try.ntmps78
  go_wp2;go_ret;exact⟨Pl.aB (by show _=decide (s.size≤200);rw[Bool.eq_iff_iff];simp;omega),rfl⟩
 ·have HF:Hid (Pl.dW 5 s=((s.toList==[121,101,115])||(s.toList==[110,111]))):=rfl;cases h1:(s.toList==[121,101,115])
  all_goals
   rw[h1]at HF;go_enter Try.func78,Try.ntmps78
   go_wp2;go_ret;exact⟨Pl.aB (by rw[HF.out];simp),rfl⟩
 ·have HF:Hid (Pl.dW 6 s=((s.toList==[110,111,110,101])||(s.toList==[98,101,114,116,104])||(s.toList==[122,111,110,101]))):=rfl;cases h1:(s.toList==[110,111,110,101])<;>cases h2:(s.toList==[98,101,114,116,104])
  all_goals
   rw[h1,h2]at HF;go_enter Try.func78,Try.ntmps78
   go_wp2;go_ret;exact⟨Pl.aB (by rw[HF.out];simp),rfl⟩
theorem Cm (w W:World) (hb:Bel w W):fe [.row 40 aC] (bQ []) w (.returned (.slice none 0 0)) W:=
 ⟨_,[],rfl,.emp _ _ none rfl .nil,List.nodup_nil,by simp,hb⟩
def iF (kind:ByteArray) (vt vb vs:Value):Value:=
 if kind.toList==[116,101,97,109] then vt else if kind.toList==[98,101,114,116,104] then vb else if kind.toList==[115,101,114,118,105,99,101] then vs else .slice none 0 0
theorem ft (a:ByteArray) (x:List UInt8) (y:ByteArray) (h:y.toList=x):(a==y)=(a.toList==x):=by
 subst h;cases a with
 |mk a=>
  cases y with
  |mk y=>
   rw[Pl.tl,Pl.tl];show (a==y)=(a.toList==y.toList)
   rw[Bool.eq_iff_iff,beq_iff_eq,beq_iff_eq];exact⟨fun h=>by rw[h],fun h=>Array.toList_inj.1 h⟩
theorem lG {W:World} {mb:Nat} {vt vb vs:Value} (hb:W.heap[mb]? =some (.map #[⟨.string {data:=#[116,101,97,109]},.agg #[vt],0⟩,⟨.string {data:=#[98,101,114,116,104]},.agg #[vb],1⟩,⟨.string {data:=#[115,101,114,118,105,99,101]},.agg #[vs],2⟩] 3)) (kind:ByteArray):
  (Instr.lookup 61 (.map (some mb)) (.string kind) false).run Try.prog W=.ok (.agg #[iF kind vt vb vs]) W:=by
 have hz:(zeroValue 64).run Try.prog W=.ok (.agg #[.slice none 0 0]) W:=by kernel_rfl
 have e1:=ft kind [116,101,97,109] {data:=#[116,101,97,109]} (by decide+kernel);have e2:=ft kind [98,101,114,116,104] {data:=#[98,101,114,116,104]} (by decide+kernel);have e3:=ft kind [115,101,114,118,105,99,101] {data:=#[115,101,114,118,105,99,101]} (by decide+kernel);obtain⟨r,hr,hv⟩:∃ r,Instr.findNow .string (.string kind) [⟨.string {data:=#[116,101,97,109]},.agg #[vt],0⟩,⟨.string {data:=#[98,101,114,116,104]},.agg #[vb],1⟩,⟨.string {data:=#[115,101,114,118,105,99,101]},.agg #[vs],2⟩] 0=some r∧(match r with|some (_,v)=>v|none=> .agg #[.slice none 0 0])=.agg #[iF kind vt vb vs]:=by
  simp only[Instr.findNow,Instr.sameNow,e1,e2,e3,iF];cases (kind.toList==[116,101,97,109])<;>cases (kind.toList==[98,101,114,116,104])<;>cases (kind.toList==[115,101,114,118,105,99,101])<;>exact⟨_,rfl,rfl⟩
 have hf:=gS W kind _ r hr;cases r with
 |none=>
  simp only at hv;simp[Instr.lookup,run_underlying Try.g6,MapKept.run_getObj_map hb,dq,hf,hz,Result.andThen,hv]
 |some p=>
  obtain⟨j,v⟩:=p;simp only at hv;subst hv;simp[Instr.lookup,run_underlying Try.g6,MapKept.run_getObj_map hb,dq,hf,Result.andThen]
theorem kM {w w0 W:World} {vt vb vs:Value} (kind:ByteArray) (h0:w.heap.size≤w0.heap.size) (ht:Kp w0 Pl.iY vt W) (hb:Kp w0 Pl.ix vb W) (hs:Kp w0 Pl.fM vs W) (hB:Bel w W):
  fe [.row 40 aC] (bQ (Pl.aj kind)) w (.returned (iF kind vt vb vs)) W:=by
 unfold iF Pl.aj;split
 ·exact ht.ans h0 hB
 ·split
  ·exact hb.ans h0 hB
  ·split
   ·exact hs.ans h0 hB
   ·exact Cm w W hB
theorem sf (kind:ByteArray) (w:World):
  Calls Try.prog 12 #[.string kind] w (fe [.row 40 aC] (bQ (Pl.aj kind)) w):=by
 have HC:=uh (gy w);go_enter Try.func12,Try.ntmps12
 go_wp2_with fail
 refine HC.out.mono ?_;rintro e w1 ⟨mb,w0,vt,vb,vs,rfl,hm,h0,k1,k2,k3,hb⟩;have HA:=uh (kM kind h0 k1 k2 k3 hb);have hl:=lG hm kind;obtain⟨v,hv⟩:∃ v,v=iF kind vt vb vs:=⟨_,rfl⟩
 rw[← hv]at HA hl;have hf:(Instr.field 64 (.agg #[v]) 0).run Try.prog w1=.ok v w1:=by kernel_rfl
 clear hv hm h0 k1 k2 k3 hb HC;go_wp2;go_ret;exact HA.out
theorem Pl.uy (kind:ByteArray):∀ r∈Pl.aj kind,∀ z∈r.args,1≤z∧z≤6:=by
 unfold Pl.aj;split
 ·decide
 ·split
  ·decide
  ·split
   ·decide
   ·intro r hr;cases hr
theorem Pl.cP (kind:ByteArray):(Pl.aj kind).length≤100:=by
 unfold Pl.aj;split
 ·decide
 ·split
  ·decide
  ·split<;>decide
theorem FU (x key:ByteArray) (v1 v3:Value) (m:Bool) (B:Nat) (w:World) (hB:w.cell? ⟨B,0,none⟩=some (.string key)) (bN:B<w.heap.size):
  Calls Try.prog 82 #[.agg #[.string x,v1,.bool m,v3],.pointer (some ⟨B,0,none⟩)] w fun e w'=>e=.returned (.bool (x.toList==key.toList))∧Bel w w':=by
 have iM:B≠w.heap.size:=by omega
 go_enter Try.func82,Try.ntmps82
 go_wp2;go_ret;refine⟨rfl, ?_⟩;repeat(first|exact zR|refine ah ?_ _|refine Below.drew ?_)
theorem C6 (l:List Pl.Ru) (va:Option Addr) (vc:Nat) (key:ByteArray) (B:Nat) (w:World) (hl:l.length≤100) (h:Raw w [.row 40 aC] [bQ l] [.slice va l.length vc]) (hB:w.cell? ⟨B,0,none⟩=some (.string key)) (hBl:B<w.heap.size):
  Calls Try.prog 81 #[.slice va l.length vc,.func (.func 82) #[] #[.pointer (some ⟨B,0,none⟩)]] w fun e w'=>e=.returned (.int .i64 (Pl.ixI (Pl.bJ l key)))∧Bel w w':=by
 have HR:=uh h;have HK:=uh (And.intro hB hBl);clear h hB hBl;go_enter Try.func81,Try.ntmps81
 go_wp2;go_loopw [8] (fun i wr=>∃ k:Nat,k≤l.length∧i=.int .i64 k∧Pl.bJ l key=Pl.eK key (l.drop k) k∧Bel w wr) (fun i _=>l.length - (intOf i).toNat)
 case atStart=>exact⟨0,zN,rfl,rfl,zR⟩
 case round=>
  obtain⟨k,hk,rfl,hI,hW⟩:=hrel;have HI:=uh hI;have HW:=uh hW;clear hI hW;by_cases bN:k<l.length
  ·obtain⟨p,o,c,a1,c1,v3,hv,hp,hg,_,_⟩:=eE (HR.out.ae HW.out) bN;injection hv with e1 _ e3
   subst e1;subst e3;have y0:wr.cell? ⟨p,o+k*4,none⟩=some (.string (l.getD k Pl.aO).key):=aF hg 0 _ rfl;have y1:=aF hg 1 _ rfl;have y2:=aF hg 2 _ rfl;have y3:=aF hg 3 _ rfl;have dd:(0:Int)≤(k:Int):=by omega
   have de:(k:Int)<(l.length:Int):=by omega
   have HM:=uh (fun h=>Pl.pQ bN HI.out h);have HH:=uh (fun h=>Pl.sA bN HI.out h);obtain⟨x,hx⟩:∃ x,x=(l.getD k Pl.aO).key:=⟨_,rfl⟩
   obtain⟨m,hm⟩:∃ m,m=(l.getD k Pl.aO).many:=⟨_,rfl⟩
   obtain⟨n1,tu⟩:∃ n1,n1=(l.getD k Pl.aO).args.length:=⟨_,rfl⟩
   rw[← hx]at y0 HM HH;rw[← tu]at y1;rw[← hm]at y2;have HC:=uh (FU x key (.slice a1 n1 c1) v3 m B wr ((HW.out.cell (p:=⟨B,0,none⟩) HK.out.2).trans HK.out.1) (zL HK.out.2 HW.out.size));clear hx hm tu hg;cases hq:(x.toList==key.toList)
   ·have HX:=uh (HM.out hq);rw[hq]at HC;clear hq;go_wp2_with fail
    refine HC.out.mono ?_;rintro e w1 ⟨rfl,hb⟩;go_wp2;go_roundw
    case rel=>exact⟨k+1,by omega,by go_num,HX.out,ai HW.out hb⟩
    case measure=>simp[intOf];omega
   ·have HX:Hid ((k:Int)=Pl.ixI (Pl.bJ l key)):=by show _=_;rw[HH.out hq];rfl
    rw[hq]at HC;clear hq;go_wp2_with fail
    refine HC.out.mono ?_;rintro e w1 ⟨rfl,hb⟩;go_wp2;go_ret;exact⟨Pl.dh HX.out,ai HW.out hb⟩
  ·obtain rfl:k=l.length:=by omega
   have HX:Hid (-1=Pl.ixI (Pl.bJ l key)):=by show _=_;rw[Pl.sL HI.out];rfl
   go_wp2;go_ret;exact⟨Pl.dh HX.out,HW.out⟩
theorem sy (x:ByteArray) (m:Bool) (ag:List Int) (a1:Option Addr) (c1:Nat) (v3:Value) (ws:List ByteArray) (wv:Value) (w:World) (hA:Raw w [.row 3 [.i]] [.row ag.length (ag.map .i)] [.slice a1 ag.length c1]) (hw:Raw w [.row 9 [.s]] [.row ws.length (txD ws)] [wv]) (hz:∀ z∈ag,1≤z∧z≤6) (hs:∀ x∈ws,x.size≤maxLen):
  Calls Try.prog 63 #[.agg #[.string x,.slice a1 ag.length c1,.bool m,v3],wv] w fun e w'=>e=.returned (.bool (Pl.gD ag ws))∧Bel w w':=by
 obtain⟨wa2,Jj,Hv⟩:=hw.aP;subst Hv;have x6:=uh hs;have HZ:=uh hz;by_cases hlen:ag.length=ws.length
 rotate_left
 ·have iM:((ws.length:Int) !=(ag.length:Int))=true:=by simp;omega
  have HX:Hid (Pl.gD ag ws=false):=by show _=_;rw[Pl.gD];simp[hlen]
  clear hlen hA hw;go_enter Try.func63,Try.ntmps63
  go_wp2;go_ret;rw[HX.out];exact⟨rfl,ah zR _⟩
 have HX:Hid (Pl.gD ag ws=Pl.fu ag ws):=by show _=_;rw[Pl.gD];simp[hlen]
 rw[hlen]at hA ⊢;obtain⟨n,hn⟩:∃ n,n=ws.length:=⟨_,rfl⟩
 rw[← hn]at hA hw hlen ⊢;have lb:Hid (ag.length=n∧ws.length=n):=⟨hlen,hn.symm⟩
 have HA:=uh hA;have BP:=uh hw;have iM:((n:Int) !=(n:Int))=false:=by simp
 clear hn hlen hA hw hz hs;go_enter Try.func63,Try.ntmps63
 go_wp2;go_loop [16] (fun i=>∃ k:Nat,k≤n∧i=.int .i64 k∧Hid (Pl.fu ag ws=Pl.fu (ag.drop k) (ws.drop k))) (fun i=>n - (intOf i).toNat)
 case atStart=>exact⟨0,zN,rfl,rfl⟩
 case round=>
  obtain⟨k,hk,rfl,HI⟩:=hrel;by_cases bN:k<n
  rotate_left
  ·obtain rfl:k=n:=by omega
   have HE:Hid (Pl.gD ag ws=true):=by
    show _=_;rw[HX.out,HI.out,List.drop_of_length_le (by have:=lb.out.1;omega),Pl.fu];intro _ _ _ _ h;cases h
   go_wp2;go_ret;rw[HE.out];exact⟨rfl,ah zR _⟩
  have HS:=uh (@Pl.rI ag ws k (by have:=lb.out.1;omega) (by have:=lb.out.2;omega));obtain⟨z,hz⟩:∃ z,z=ag.getD k 0:=⟨_,rfl⟩
  obtain⟨y,hy⟩:∃ y,y=ws.getD k ⟨#[]⟩:=⟨_,rfl⟩
  have hys:y.size≤maxLen:=by
   have qL:k<ws.length:=by have:=lb.out.2;omega
   have e:ws.getD k ⟨#[]⟩=ws[k]:=by simp[qL]
   rw[hy,e];exact x6.out _ (List.getElem_mem qL)
  have K5:1≤z∧z≤6:=by
   have qL:k<ag.length:=by have:=lb.out.1;omega
   have e:ag.getD k 0=ag[k]:=by simp[qL]
   rw[hz,e];exact HZ.out _ (List.getElem_mem qL)
  have tA:=uh (fun W=>nR z y W hys K5);rcases HA.out.slice with⟨e0,_⟩|⟨p1,o1,LM,jK,pW,_,vs1,ji,lg⟩
  ·omega
  rcases BP.out.slice with⟨e0,_⟩|⟨p2,o2,GX,fK,oy,ec,vs2,kh,eL⟩
  ·omega
  have IY:=ec.1;unfold maxLen at IY;clear ec;injection jK with g1 _ g3
  injection fK with k1 _ k3
  subst g1;subst g3;subst k1;subst k3;obtain⟨ve1,J0,vP⟩:=lg.el bN ji;obtain⟨ve2,Gp,oR⟩:=eL.el bN kh;have Bw:el 1 k (ag.map Dt.i)=[.i z]:=by rw[hz];exact gC 0 Dt.i ag k (by have:=lb.out.1;omega)
  have Bc:el 1 k (txD ws)=[.s y]:=by rw[hy];exact gC ⟨#[]⟩ Dt.s ws k (by have:=lb.out.2;omega)
  have Bn:Raw w [.i] [.i z] ve1:=by rw[← Bw];exact J0
  have Bu:Raw w [.s] [.s y] ve2:=by rw[← Bc];exact Gp
  obtain rfl:=yT Bn;obtain rfl:=vA Bu;have y1:w.cell? ⟨p1,o1+k,none⟩=some (.int .i64 z):=by have:=aF vP 0 _ rfl;simpa using this
  have y2:w.cell? ⟨p2,o2+k,none⟩=some (.string y):=by have:=aF oR 0 _ rfl;simpa using this
  have z1:(w.alloc (.cells #[.string x,.slice (some ⟨p1,o1,none⟩) n c1,.bool m,v3] 40)).cell? ⟨p1,o1+k,none⟩=some (.int .i64 z):=((ah zR _).cell (p:=⟨p1,o1+k,none⟩) pW).trans y1;have z2:(w.alloc (.cells #[.string x,.slice (some ⟨p1,o1,none⟩) n c1,.bool m,v3] 40)).cell? ⟨p2,o2+k,none⟩=some (.string y):=((ah zR _).cell (p:=⟨p2,o2+k,none⟩) oy).trans y2;clear y1 y2;rw[← hz,← hy]at HS;obtain⟨b,fL⟩:∃ b,b=Pl.dW z y:=⟨_,rfl⟩
  rw[← fL]at HS;have HC:Hid (∀ W,Calls Try.prog 78 #[.int .i64 z,.string y] W fun e w'=>e=.returned (.bool b)∧W=w'):=by rw[fL];exact tA.out
  have dd:(0:Int)≤(k:Int):=by omega
  have de:(k:Int)<(n:Int):=by omega
  clear lg eL ji kh J0 Gp Bn Bu Bw Bc vP oR hz hy fL tA pW oy hys K5;cases b
  ·have HE:Hid (Pl.gD ag ws=false):=by show _=_;rw[HX.out,HI.out,HS.out];rfl
   go_wp2_with (go_at_call 78;refine(HC.out _).mono ?_;rintro e w' ⟨rfl,rfl⟩)
   go_ret;rw[HE.out];exact⟨rfl,ah zR _⟩
  ·have HN:Hid (Pl.fu ag ws=Pl.fu (ag.drop (k+1)) (ws.drop (k+1))):=by show _=_;rw[HI.out,HS.out];rfl
   go_wp2_with (go_at_call 78;refine(HC.out _).mono ?_;rintro e w' ⟨rfl,rfl⟩)
   go_round
   case rel=>exact⟨k+1,by omega,by go_num,HN⟩
   case measure=>simp[intOf];omega
theorem tP (l:List Pl.Ru) (va:Option Addr) (vc:Nat) (key:ByteArray) (w:World) (hl:l.length≤100) (h:Raw w [.row 40 aC] [bQ l] [.slice va l.length vc]):
  Calls Try.prog 67 #[.agg #[.slice va l.length vc],.string key] w fun e w'=>e=.returned (.int .i64 (Pl.ixI (Pl.bJ l key)))∧Bel w w':=by
 obtain⟨wa,aS⟩:∃ wa,wa=(w.alloc (.cells #[.slice va l.length vc] 64)).alloc (.cells #[.string key] 9):=⟨_,rfl⟩
 have HB:Hid (Bel w wa):=by show Below _ _ _;rw[aS];exact ah (ah zR _) _
 have x0:wa.cell? ⟨w.heap.size,0,none⟩=some (.slice va l.length vc):=by rw[aS];exact((aD.new w #[.slice va l.length vc] 64 _ rfl).fI _).get 0 _ rfl
 have HK:aD wa (w.heap.size+1) [.string key]:=by rw[aS];exact aD.new _ #[.string key] _ _ (by simp)
 have HC:=uh (C6 l va vc key (w.heap.size+1) wa hl (h.ae HB.out) (HK.get 0 _ rfl) HK.lt);have z:w.heap.size<wa.heap.size:=by rw[aS];simp;omega
 clear h HK;go_enter Try.func67,Try.ntmps67
 go_upto_region 1 with fail
 rw[← aS];clear aS;go_wp2_with (go_at_call 81;refine HC.out.mono ?_;rintro e w' ⟨rfl,hb⟩)
 go_ret;exact⟨rfl,ai HB.out hb⟩
def kQ (l:List Pl.Ru) (key:ByteArray) (W:World) (e:Ending):Prop:=match Pl.bJ l key with
 |none=>e=.returned (.tuple #[.agg #[.string ⟨#[]⟩,.slice none 0 0,.bool false,.slice none 0 0],.bool false])
 |some j=>∃ a1 c1 a3 c3,e=.returned (.tuple #[.agg #[.string (l.getD j Pl.aO).key,.slice a1 (l.getD j Pl.aO).args.length c1,.bool (l.getD j Pl.aO).many,.slice a3 (l.getD j Pl.aO).dflt.length c3],.bool true])∧
   Raw W [.row 3 [.i]] [.row (l.getD j Pl.aO).args.length ((l.getD j Pl.aO).args.map .i)] [.slice a1 (l.getD j Pl.aO).args.length c1]∧
   Raw W [.row 9 [.s]] [.row (l.getD j Pl.aO).dflt.length (txD (l.getD j Pl.aO).dflt)] [.slice a3 (l.getD j Pl.aO).dflt.length c3]
theorem AA (l:List Pl.Ru) (va:Option Addr) (vc:Nat) (key:ByteArray) (w0 w:World) (tz:Bel w0 w) (hl:l.length≤100) (h:Raw w0 [.row 40 aC] [bQ l] [.slice va l.length vc]):
  Calls Try.prog 37 #[.agg #[.slice va l.length vc],.string key] w fun e w'=>kQ l key w0 e∧Bel w w':=by
 obtain⟨wa,aS⟩:∃ wa,wa=(w.alloc (.cells #[.slice va l.length vc] 64)).alloc (.cells #[.string ⟨#[]⟩,.slice none 0 0,.bool false,.slice none 0 0] 40):=⟨_,rfl⟩
 have HB:Hid (Bel w wa):=by show Below _ _ _;rw[aS];exact ah (ah zR _) _
 have HK:aD wa w.heap.size [.slice va l.length vc]:=by rw[aS];exact(aD.new w #[.slice va l.length vc] 64 _ rfl).fI _
 have uT:Hid (aK wa (w.heap.size+1) 40 [.string ⟨#[]⟩,.slice none 0 0,.bool false,.slice none 0 0]):=by show aK _ _ _ _;rw[aS];exact aK.new (w.alloc (.cells #[.slice va l.length vc] 64)) [.string ⟨#[]⟩,.slice none 0 0,.bool false,.slice none 0 0] 40 _ (by simp)
 have HC:=uh (tP l va vc key wa hl (h.ae (ai tz HB.out)));have HR:=uh h;have tF:=uh tz;have KW:=uh HK;have x0:=HK.get 0 _ rfl;have xl:=HK.lt;obtain⟨b0,bD⟩:∃ b0,b0=w.heap.size:=⟨_,rfl⟩
 have iG:=uh bD;clear h HK tz;go_enter Try.func37,Try.ntmps37
 go_upto_region 1 with fail
 rw[← aS];clear aS;rw[← bD]at uT KW x0 xl;rw[← bD];clear bD;go_wp2_with fail
 refine HC.out.mono ?_;rintro e w1 ⟨rfl,hb⟩;have x1:=(KW.out.ae hb).get 0 _ rfl;have xl1:=(KW.out.ae hb).lt;have gP:=uh (uT.out.ae hb);have fz:Hid (Bel w w1):=ai HB.out hb;clear hb HC uT KW x0 xl;cases jR:Pl.bJ l key with
 |none=>
  have EW:Pl.ixI none= -1:=rfl;rw[EW];clear EW;have HX:Hid (∀ e,e=.returned (.tuple #[.agg #[.string ⟨#[]⟩,.slice none 0 0,.bool false,.slice none 0 0],.bool false])→kQ l key w0 e):=fun e he=>by unfold kQ;rw[jR];exact he
  have uF:w1.there (b0+1) 0 (#[.string ⟨#[]⟩,.slice none 0 0,.bool false,.slice none 0 0]:Array Value).size:=aR (gP.out).own _ _ (by simp);obtain⟨GI,uI⟩:∃ GI,GI=w1.setCells (b0+1) 0 [.string ⟨#[]⟩,.slice none 0 0,.bool false,.slice none 0 0]:=⟨_,rfl⟩
  have tg:=uh uI;have ji:GI.rangeAt (b0+1) 0 [.string ⟨#[]⟩,.slice none 0 0,.bool false,.slice none 0 0]:=by rw[uI];exact World.rangeAt_setCells_same _ _ _ _ uF
  clear uI jR;go_wp2_with (refine wpList_store_mid rfl 40 _ _ rfl (b0+1) 0 #[.string ⟨#[]⟩,.slice none 0 0,.bool false,.slice none 0 0] rfl rfl uF (by kernel_rfl) (by simp[Value.oneCell']) ?_;first|rw[← tg.out]|(simp only[List.toList_toArray];rw[← tg.out]))
  try simp only[Act.put,List.setIfInBounds_toArray,List.set_cons_zero,List.set_cons_succ]
  refine bodyPost_ret (v:=.tuple #[.agg #[.string ⟨#[]⟩,.slice none 0 0,.bool false,.slice none 0 0],.bool false]) (by simp[results,Try.results37,asAddr,run_loadVar_mid (P:=Try.prog) _ _ _ 40 [.string ⟨#[]⟩,.slice none 0 0,.bool false,.slice none 0 0] _ ji Try.underlying40 rfl (by kernel_rfl)]) rfl ?_;rw[tg.out];exact⟨HX.out _ rfl,cG (by have:=iG.out;omega) _ _ _ fz.out⟩
 |some j=>
  have hj:=Pl.fm jR;have EW:Pl.ixI (some j)=(j:Int):=rfl;rw[EW];clear EW;have th:(0:Int)≤(j:Int):=by omega
  have mR:(j:Int)<(l.length:Int):=by omega
  obtain⟨p,o,c,a1,c1,v3,hv,hp,hg,hA,hD⟩:=eE HR.out hj;injection hv with e1 _ e3
  subst e1;subst e3;obtain⟨a3,c3,e5⟩:=hD.aP;subst e5;have HX:Hid (∀ e,e=.returned (.tuple #[.agg #[.string (l.getD j Pl.aO).key,.slice a1 (l.getD j Pl.aO).args.length c1,.bool (l.getD j Pl.aO).many,.slice a3 (l.getD j Pl.aO).dflt.length c3],.bool true])→kQ l key w0 e):=fun e he=>by unfold kQ;rw[jR];exact⟨_,_,_,_,he,hA,hD⟩
  have HG:=uh (aA hg hp (ai tF.out fz.out));clear hg hA hD jR;obtain⟨r0,h0⟩:∃ r0,r0=(l.getD j Pl.aO).key:=⟨_,rfl⟩
  obtain⟨n1,h1⟩:∃ n1,n1=(l.getD j Pl.aO).args.length:=⟨_,rfl⟩
  obtain⟨m,h2⟩:∃ m,m=(l.getD j Pl.aO).many:=⟨_,rfl⟩
  obtain⟨n3,h3⟩:∃ n3,n3=(l.getD j Pl.aO).dflt.length:=⟨_,rfl⟩
  rw[← h0,← h1,← h2,← h3]at HX HG;clear h0 h1 h2 h3;have uF:w1.there (b0+1) 0 (#[.string r0,.slice a1 n1 c1,.bool m,.slice a3 n3 c3]:Array Value).size:=aR (gP.out).own _ _ (by simp);obtain⟨GI,uI⟩:∃ GI,GI=w1.setCells (b0+1) 0 [.string r0,.slice a1 n1 c1,.bool m,.slice a3 n3 c3]:=⟨_,rfl⟩
  have tg:=uh uI;have ji:GI.rangeAt (b0+1) 0 [.string r0,.slice a1 n1 c1,.bool m,.slice a3 n3 c3]:=by rw[uI];exact World.rangeAt_setCells_same _ _ _ _ uF
  clear uI;go_wp2_with (first|(refine wpList_load_mid rfl 40 _ rfl p (o+j*4) rfl [.string r0,.slice a1 n1 c1,.bool m,.slice a3 n3 c3] _ HG.out Try.underlying40 rfl (by kernel_rfl) ?_)|(refine wpList_store_mid rfl 40 _ _ rfl (b0+1) 0 #[.string r0,.slice a1 n1 c1,.bool m,.slice a3 n3 c3] rfl rfl uF (by kernel_rfl) (by simp[Value.oneCell']) ?_;first|rw[← tg.out]|(simp only[List.toList_toArray];rw[← tg.out])))
  try simp only[Act.put,List.setIfInBounds_toArray,List.set_cons_zero,List.set_cons_succ]
  refine bodyPost_ret (v:=.tuple #[.agg #[.string r0,.slice a1 n1 c1,.bool m,.slice a3 n3 c3],.bool true]) (by simp[results,Try.results37,asAddr,run_loadVar_mid (P:=Try.prog) _ _ _ 40 [.string r0,.slice a1 n1 c1,.bool m,.slice a3 n3 c3] _ ji Try.underlying40 rfl (by kernel_rfl)]) rfl ?_;rw[tg.out];exact⟨HX.out _ rfl,cG (by have:=iG.out;omega) _ _ _ fz.out⟩
def bT (a b:ByteArray):Int:=if Pl.mA a b then -1 else if a.toList==b.toList then 0 else 1
def dm (a b:Int):Int:=if a<b then -1 else if b<a then 1 else 0
def dQ:List Int→Int
 |[]=>0
 |x::l=>if x=0 then dQ l else x
def eF (x y:Int):Int:=if x=0 then y else x
theorem qf (l:List Int) (k:Nat) (hk:k<l.length):dQ (l.drop k)=if l.getD k 0=0 then dQ (l.drop (k+1)) else l.getD k 0:=by
 have e:l.drop k=l[k]::l.drop (k+1):=List.drop_eq_getElem_cons hk;have e2:l.getD k 0=l[k]:=by simp[hk]
 rw[e,e2];rfl
theorem Fe (a:ByteArray) (w:World):Calls Try.prog 77 #[.string a] w fun e w'=>e=.returned (.bool false)∧w=w':=by
 go_enter Try.func77,Try.ntmps77
 go_wp2;go_ret;exact⟨Pl.aB (by simp),rfl⟩
theorem tT (a:Int) (w:World):Calls Try.prog 89 #[.int .i64 a] w fun e w'=>e=.returned (.bool false)∧w=w':=by
 go_enter Try.func89,Try.ntmps89
 go_wp2;go_ret;exact⟨Pl.aB (by simp),rfl⟩
theorem IL (a b:ByteArray) (w:World):Calls Try.prog 60 #[.string a,.string b] w fun e w'=>e=.returned (.int .i64 (bT a b))∧w=w':=by
 obtain⟨R,hR⟩:∃ R,R=bT a b:=⟨_,rfl⟩
 have HR:Hid (R=bT a b):=hR;rw[← hR];clear hR;go_enter Try.func60,Try.ntmps60
 cases h1:Op.bytesLess a.toList b.toList<;>cases h2:(a.toList==b.toList)
 all_goals
  have HE:Hid (R=if Op.bytesLess a.toList b.toList=true then (-1:Int) else if (a.toList==b.toList)=true then 0 else 1):=HR.out;have HE':Hid (Op.bytesLess a.toList b.toList=_∧(a.toList==b.toList)=_):=⟨h1,h2⟩
  go_wp2_with (go_at_call 77;refine(Fe _ _).mono ?_;rintro e w' ⟨rfl,rfl⟩)
  go_ret;exact⟨Pl.dh (by rw[HE.out,HE'.out.1,HE'.out.2];rfl),rfl⟩
theorem Lf (a b:Int) (w:World):Calls Try.prog 79 #[.int .i64 a,.int .i64 b] w fun e w'=>e=.returned (.int .i64 (dm a b))∧w=w':=by
 obtain⟨R,hR⟩:∃ R,R=dm a b:=⟨_,rfl⟩
 have HR:Hid (R=dm a b):=hR;rw[← hR];clear hR;go_enter Try.func79,Try.ntmps79
 by_cases h1:a<b
 ·have HE:Hid (R= -1):=by show R=_;rw[HR.out];unfold dm;rw[if_pos h1]
  go_wp2_with (go_at_call 89;refine(tT _ _).mono ?_;rintro e w' ⟨rfl,rfl⟩)
  go_ret;exact⟨Pl.dh HE.out.symm,rfl⟩
 ·by_cases h2:b<a
  ·have HE:Hid (R=1):=by show R=_;rw[HR.out];unfold dm;rw[if_neg h1,if_pos h2]
   go_wp2_with (go_at_call 89;refine(tT _ _).mono ?_;rintro e w' ⟨rfl,rfl⟩)
   go_ret;exact⟨Pl.dh HE.out.symm,rfl⟩
  ·have HE:Hid (R=0):=by show R=_;rw[HR.out];unfold dm;rw[if_neg h1,if_neg h2]
   go_wp2_with (go_at_call 89;refine(tT _ _).mono ?_;rintro e w' ⟨rfl,rfl⟩)
   go_ret;exact⟨Pl.dh HE.out.symm,rfl⟩
theorem IM (g c:Nat) (l:List Int) (w:World) (hl:l.length≤1048576) (hc:∀ i,i<l.length→w.cell? ⟨g,i,none⟩=some (.int .i64 (l.getD i 0))):
  Calls Try.prog 59 #[.slice (some ⟨g,0,none⟩) l.length c] w fun e w'=>e=.returned (.int .i64 (dQ l))∧w=w':=by
 obtain⟨R,hR⟩:∃ R,R=dQ l:=⟨_,rfl⟩
 have HR:Hid (R=dQ l):=hR;rw[← hR];clear hR;go_enter Try.func59,Try.ntmps59
 go_wp2;go_loop [8] (fun i=>∃ k:Nat,k≤l.length∧i=.int .i64 k∧R=dQ (l.drop k)) (fun i=>l.length - (intOf i).toNat)
 case atStart=>exact⟨0,zN,rfl,HR.out⟩
 case round=>
  obtain⟨k,hk,rfl,hq⟩:=hrel;have HQ:Hid (R=dQ (l.drop k)):=hq;clear hq;by_cases bN:k<l.length
  ·have Ib:=hc k bN;obtain⟨y,hy⟩:∃ y,y=l.getD k 0:=⟨_,rfl⟩
   rw[← hy]at Ib;have HY:Hid (R=if y=0 then dQ (l.drop (k+1)) else y):=by show R=_;rw[HQ.out,qf l k bN,hy]
   clear hy hc;by_cases hz:y=0
   ·have HE:Hid (R=dQ (l.drop (k+1))):=by show R=_;rw[HY.out,if_pos hz]
    go_wp2;go_round
    case rel=>exact⟨k+1,by omega,by go_num,HE.out⟩
    case measure=>simp[intOf];omega
   ·have HE:Hid (R=y):=by show R=_;rw[HY.out,if_neg hz]
    go_wp2;go_ret;exact⟨Pl.dh HE.out.symm,rfl⟩
  ·have HE:Hid (R=0):=by show R=_;rw[HQ.out,List.drop_eq_nil_of_le (by omega)];rfl
   go_wp2;go_ret;exact⟨Pl.dh HE.out.symm,rfl⟩
theorem nz2 (x y:Int):dQ [x,y]=eF x y:=by
 unfold dQ eF;split
 ·unfold dQ;split
  ·rename_i h;rw[h];rfl
  ·rfl
 ·rfl
theorem zy (g c:Nat) (x y:Int) (w:World) (h0:w.cell? ⟨g,0,none⟩=some (.int .i64 x)) (h1:w.cell? ⟨g,1,none⟩=some (.int .i64 y)):
  Calls Try.prog 59 #[.slice (some ⟨g,0,none⟩) 2 c] w fun e w'=>e=.returned (.int .i64 (eF x y))∧w=w':=by
 have:=IM g c [x,y] w (by simp) (fun i hi=>by
  match i,hi with
  |0,_=>exact h0
  |1,_=>exact h1
  |n+2,h=>simp at h;omega)
 rw[nz2]at this;exact this
theorem dG {P:Program} {id:Nat} {Q:Exit→Act→World→Prop} {a:Act} {w:World} {l:List Oper} (n:Nat) (hm:P.follows .mixedOrders=true) (hB:Region.lexTailB .any l.toArray n=true)
  (h:∀ W,W=w.drew→wpStill P l.toArray W (fun a'=>wpList P l.toArray Q (l.drop n) a' W) (l.take n) a):(Code.region id l.toArray true).wp P Q a w:=
 wp_region_still_tail n hm hB (h _ rfl)
theorem Ej (a b:ByteArray) (w:World):Calls Try.prog 60 #[.string a,.string b] w fun e w'=>e=.returned (.int .i64 (bT a b))∧w'=w:=(IL a b w).mono (fun _ _ h=>⟨h.1,h.2.symm⟩)
theorem sU (n:Int) (h0:0≤n) (h1:n≤9223372036854775807):IntKind.i64.wrap n=n:=by
 simp[IntKind.wrap,IntKind.bits,IntKind.signed];omega
def et (x y:Pl.Bl):Int:=eF (bT x.kind y.kind) (bT x.name y.name)
theorem uD (k0 k1 j0 j1:ByteArray) (p2 q2:Value) (w:World):Calls Try.prog 32 #[.agg #[.string k0,.string k1,p2],.agg #[.string j0,.string j1,q2]] w fun e w'=>e=.returned (.int .i64 (eF (bT k0 j0) (bT k1 j1)))∧Bel w w':=by
 obtain⟨wa,aS⟩:∃ wa,wa=(w.alloc (.cells #[.string k0,.string k1,p2] 32)).alloc (.cells #[.string j0,.string j1,q2] 32):=⟨_,rfl⟩
 have HB:Hid (Bel w wa.drew):=by show Below _ _ _;rw[aS];exact Below.drew (ah (ah zR _) _)
 have x0:∀ j,wa.drew.cell? ⟨w.heap.size,j,none⟩=(#[.string k0,.string k1,p2]:Array Value)[j]? :=fun j=>by
  show wa.cell? _=_;rw[aS];exact(World.cell?_alloc_past _ _ _ (by simp)).trans (World.cell?_alloc_at _ _ _ _ rfl)
 have x1:∀ j,wa.drew.cell? ⟨w.heap.size+1,j,none⟩=(#[.string j0,.string j1,q2]:Array Value)[j]? :=fun j=>by
  show wa.cell? _=_;rw[aS];exact(World.cell?_alloc_at _ _ _ _ (by simp))
 have z:w.heap.size+1<wa.drew.heap.size:=by show _<wa.heap.size;rw[aS];simp
 go_enter Try.func32,Try.ntmps32
 go_upto_region 1 with fail
 rw[← aS];refine dG 10 (by kernel_rfl) (by kernel_rfl) ?_;intro W hW;rw[← hW]at HB x0 x1 z;simp only[List.take_succ_cons,List.take_zero,List.drop_succ_cons,List.drop_zero];have a0:=x0 0;have b0:=x1 0;have a1:=x0 1;have b1:=x1 1;simp at a0 b0 a1 b1;clear x0 x1 aS hW;still_step
 still_step
 still_step
 still_step
 still_call (Ej _ _ _)
 still_step
 still_step
 still_step
 still_step
 still_call (Ej _ _ _)
 refine wpStill_nil ?_;go_wp2_with (go_at_call 59;refine(zy _ _ (bT k0 j0) (bT k1 j1) _ (by simp) (by simp)).mono ?_;rintro e w' ⟨rfl,rfl⟩)
 go_ret;exact⟨rfl,ah HB.out _⟩
def cK:List ByteArray→List ByteArray→Int
 |[],[]=>0
 |[],_::_=> -1
 |_::_,[]=>1
 |a::x,b::y=>if bT a b=0 then cK x y else bT a b
theorem CI {A B:List ByteArray} {k:Nat} (h1:k<A.length) (h2:k<B.length):cK (A.drop k) (B.drop k)=if bT (A.getD k Pl.eR) (B.getD k Pl.eR)=0 then cK (A.drop (k+1)) (B.drop (k+1)) else bT (A.getD k Pl.eR) (B.getD k Pl.eR):=by
 have e1:A.getD k Pl.eR=A[k]:=by simp[h1]
 have e2:B.getD k Pl.eR=B[k]:=by simp[h2]
 rw[List.drop_eq_getElem_cons h1,List.drop_eq_getElem_cons h2,cK,e1,e2]
theorem xd {A B:List ByteArray} {k:Nat} (h1:k<A.length) (h2:B.length≤k):cK (A.drop k) (B.drop k)=1:=by
 rw[List.drop_eq_getElem_cons h1,List.drop_of_length_le h2];rfl
theorem Aw {A B:List ByteArray} {k:Nat} (h1:A.length≤k) (h2:k<B.length):cK (A.drop k) (B.drop k)= -1:=by
 rw[List.drop_eq_getElem_cons h2,List.drop_of_length_le h1];rfl
theorem wJ {A B:List ByteArray} {k:Nat} (h1:A.length≤k) (h2:B.length≤k):cK (A.drop k) (B.drop k)=0:=by
 rw[List.drop_of_length_le h2,List.drop_of_length_le h1];rfl
theorem FH (A B:List ByteArray) (va vb:Value) (w:World) (hA:Raw w cA [.row A.length (txD A)] [va]) (hB:Raw w cA [.row B.length (txD B)] [vb]):
  Calls Try.prog 80 #[va,vb] w fun e w'=>e=.returned (.int .i64 (cK A B))∧w=w':=by
 obtain⟨a1,c1,rfl⟩:=hA.aP;obtain⟨a2,c2,rfl⟩:=hB.aP;obtain⟨R,hR⟩:∃ R,R=cK A B:=⟨_,rfl⟩
 have HR:Hid (R=cK A B):=hR;rw[← hR];have HA:=uh (g7 hA);have HB:=uh (g7 hB);obtain⟨n,hn⟩:∃ n,n=A.length:=⟨_,rfl⟩
 obtain⟨m,hm⟩:∃ m,m=B.length:=⟨_,rfl⟩
 rw[← hn]at HA;rw[← hm]at HB;rw[← hn,← hm];have HN:=uh (And.intro hn hm);have vJ:n≤maxLen:=by
  rcases HA.out with h|⟨_,_,_,_,_,h,_⟩
  ·omega
  ·exact h
 unfold maxLen at vJ;clear hR hA hB hn hm;go_enter Try.func80,Try.ntmps80
 go_wp2;go_loop [11] (fun i=>∃ k:Nat,k≤n∧k≤m∧i=.int .i64 k∧Hid (R=cK (A.drop k) (B.drop k))) (fun i=>n - (intOf i).toNat)
 case atStart=>exact⟨0,zN,zN,rfl,HR⟩
 case round=>
  obtain⟨k,hk,GD,rfl,HI⟩:=hrel;by_cases bN:k<n
  rotate_left
  ·obtain rfl:k=n:=by omega
   by_cases hlm:k<m
   ·have HE:Hid (R= -1):=by show R=_;rw[HI.out];exact Aw (by rw[← HN.out.1];exact zE) (by rw[← HN.out.2];exact hlm)
    go_wp2;go_ret;exact⟨Pl.dh HE.out.symm,rfl⟩
   ·have HE:Hid (R=0):=by show R=_;rw[HI.out];exact wJ (by rw[← HN.out.1];exact zE) (by rw[← HN.out.2];omega)
    go_wp2;go_ret;exact⟨Pl.dh HE.out.symm,rfl⟩
  rcases HA.out with⟨e0,_⟩|⟨p,o,c,hv,hp,_,hc⟩
  ·omega
  injection hv with g1 _ g3
  subst g1;subst g3;have x0:=hc k bN;have dd:(0:Int)≤(k:Int):=by omega
  have de:(k:Int)<(n:Int):=by omega
  by_cases hlm:k<m
  rotate_left
  ·have HE:Hid (R=1):=by show R=_;rw[HI.out];exact xd (by rw[← HN.out.1];exact bN) (by rw[← HN.out.2];omega)
   go_wp2;go_ret;exact⟨Pl.dh HE.out.symm,rfl⟩
  rcases HB.out with⟨e0,_⟩|⟨p2,o2,GX,fK,oy,_,kj⟩
  ·omega
  injection fK with k1 _ k3
  subst k1;subst k3;have y0:=kj k hlm;have hkm2:(k:Int)<(m:Int):=by omega
  have HS:Hid _:=uh (CI (A:=A) (B:=B) (k:=k) (by rw[← HN.out.1];exact bN) (by rw[← HN.out.2];exact hlm));obtain⟨x,hx⟩:∃ x,x=A.getD k Pl.eR:=⟨_,rfl⟩
  obtain⟨y,hy⟩:∃ y,y=B.getD k Pl.eR:=⟨_,rfl⟩
  rw[← hx]at HS x0;rw[← hy]at HS y0;obtain⟨r,hr⟩:∃ r,r=bT x y:=⟨_,rfl⟩
  have HC:Hid (∀ W,Calls Try.prog 60 #[.string x,.string y] W fun e w'=>e=.returned (.int .i64 r)∧W=w'):=fun W=>by rw[hr];exact IL x y W
  rw[← hr]at HS;clear hx hy hr hc kj hp oy;by_cases hz:r=0
  ·have HE:Hid (R=cK (A.drop (k+1)) (B.drop (k+1))):=by show R=_;rw[HI.out,HS.out,if_pos hz]
   subst hz;go_wp2_with (go_at_call 60;refine(HC.out _).mono ?_;rintro e w' ⟨rfl,rfl⟩)
   go_round
   case rel=>exact⟨k+1,by omega,by omega,by go_num,HE⟩
   case measure=>simp[intOf];omega
  ·have HE:Hid (R=r):=by show R=_;rw[HI.out,HS.out,if_neg hz]
   have hb:((r:Int) !=0)=true:=by simp[hz]
   go_wp2_with (go_at_call 60;refine(HC.out _).mono ?_;rintro e w' ⟨rfl,rfl⟩)
   go_ret;exact⟨Pl.dh HE.out.symm,rfl⟩
def gZ (l:List Pl.Ru) (x y:Pl.Ln):Int:=eF (dm (Pl.ixI (Pl.bJ l x.key)) (Pl.ixI (Pl.bJ l y.key))) (cK x.ws y.ws)
def Fa (b0:Nat) (vc:Nat) (c1:Nat) (c2:Nat) (va:Option Addr) (a1:Option Addr) (a2:Option Addr) (l:List Pl.Ru) (x:Pl.Ln) (y:Pl.Ln):Nat→Value→World→Prop
 |0,vv,_|4,vv,_=>vv=.agg #[.slice va l.length vc]
 |1,vv,_=>vv=.pointer (some ⟨(b0+1),0,none⟩)
 |2,vv,_=>vv=.string x.key
 |3,vv,_=>vv=.int .i64 (Pl.ixI (Pl.bJ l x.key))
 |5,vv,_=>vv=.pointer (some ⟨(b0+2),0,none⟩)
 |6,vv,_=>vv=.string y.key
 |7,vv,_=>vv=.int .i64 (Pl.ixI (Pl.bJ l y.key))
 |8,vv,_=>vv=.int .i64 (dm (Pl.ixI (Pl.bJ l x.key)) (Pl.ixI (Pl.bJ l y.key)))
 |9,vv,_=>vv=.pointer (some ⟨(b0+1),1,none⟩)
 |10,vv,_=>vv=.slice a1 x.ws.length c1
 |11,vv,_=>vv=.pointer (some ⟨(b0+2),1,none⟩)
 |12,vv,_=>vv=.slice a2 y.ws.length c2
 |13,vv,_=>vv=.int .i64 (cK x.ws y.ws)
 |14,vv,W=>∃ g,vv=.slice (some ⟨g,0,none⟩) 2 2∧W.cell? ⟨g,0,none⟩=some (.int .i64 (dm (Pl.ixI (Pl.bJ l x.key)) (Pl.ixI (Pl.bJ l y.key))))∧W.cell? ⟨g,1,none⟩=some (.int .i64 (cK x.ws y.ws))∧g<W.heap.size
 |15,vv,_|16,vv,_=>vv=.int .i64 (gZ l x y)
 |_,_,_=>True
theorem wS (b0:Nat) (vc:Nat) (c1:Nat) (c2:Nat) (va:Option Addr) (a1:Option Addr) (a2:Option Addr) (l:List Pl.Ru) (x:Pl.Ln) (y:Pl.Ln):∀ jj vv W W',Bel W W'→Fa b0 vc c1 c2 va a1 a2 l x y jj vv W→Fa b0 vc c1 c2 va a1 a2 l x y jj vv W':=by
 intro jj vv W W' hb h;match jj with
 |0|1|2|3|4|5|6|7|8|9|10|11|12|13|15|16=>exact h
 |14=>
  obtain⟨g,h1,h2,h3,h4⟩:=h;exact⟨g,h1,(hb.cell (p:=⟨g,0,none⟩) h4).trans h2,(hb.cell (p:=⟨g,1,none⟩) h4).trans h3,zL h4 hb.size⟩
 |n+17=>exact trivial
theorem Fo (l:List Pl.Ru) (va:Option Addr) (vc:Nat) (x y:Pl.Ln) (a1 a2:Option Addr) (c1 c2:Nat) (w:World) (hl:l.length≤100) (h:Raw w [.row 40 aC] [bQ l] [.slice va l.length vc]) (hx:Raw w cA [.row x.ws.length (txD x.ws)] [.slice a1 x.ws.length c1]) (hy:Raw w cA [.row y.ws.length (txD y.ws)] [.slice a2 y.ws.length c2]):
  Calls Try.prog 66 #[.agg #[.slice va l.length vc],.agg #[.string x.key,.slice a1 x.ws.length c1],.agg #[.string y.key,.slice a2 y.ws.length c2]] w fun e w'=>e=.returned (.int .i64 (gZ l x y))∧Bel w w':=by
 obtain⟨wa,aS⟩:∃ wa,wa=((w.alloc (.cells #[.slice va l.length vc] 64)).alloc (.cells #[.string x.key,.slice a1 x.ws.length c1] 53)).alloc (.cells #[.string y.key,.slice a2 y.ws.length c2] 53):=⟨_,rfl⟩
 obtain⟨b0,bD⟩:∃ b0,b0=w.heap.size:=⟨_,rfl⟩
 have HB:Hid (Bel w wa):=by show Below _ _ _;rw[aS];exact ah (ah (ah zR _) _) _
 have eA:Hid (aD wa b0 [.slice va l.length vc]):=by show aD _ _ _;rw[aS,bD];exact((aD.new w #[.slice va l.length vc] _ _ rfl).fI _).fI _
 have iH:Hid (aD wa (b0+1) [.string x.key,.slice a1 x.ws.length c1]):=by show aD _ _ _;rw[aS,bD];exact(aD.new (w.alloc (.cells #[.slice va l.length vc] 64)) #[.string x.key,.slice a1 x.ws.length c1] _ _ (by simp)).fI _
 have yj:Hid (aD wa (b0+2) [.string y.key,.slice a2 y.ws.length c2]):=by show aD _ _ _;rw[aS,bD];exact aD.new ((w.alloc (.cells #[.slice va l.length vc] 64)).alloc (.cells #[.string x.key,.slice a1 x.ws.length c1] 53)) #[.string y.key,.slice a2 y.ws.length c2] _ _ (by simp)
 have jB:=uh (h.ae HB.out);have EN:=uh (hx.ae HB.out);have HYW:=uh (hy.ae HB.out);have HL:=uh hl;clear h hx hy hl;go_enter Try.func66,Try.ntmps66
 go_upto_region 1 with fail
 rw[← aS,← bD];clear aS bD;refine RY.cY wa zR (Fa b0 vc c1 c2 va a1 a2 l x y) (wS _ _ _ _ _ _ _ _ _ _) (by kernel_rfl) (by kernel_rfl) (by kernel_rfl) (by kernel_rfl) ?_ ?_
 ·intro ii o' ho a X hX hk hd;have zb0:=eA.out.ae hX;have zb0l:=zb0.lt;have z_b0___1_:=iH.out.ae hX;have z_b0___1_l:=z_b0___1_.lt;have z_b0___2_:=yj.out.ae hX;have z_b0___2_l:=z_b0___2_.lt;match ii,ho with
  |0,rfl|4,rfl=>
   have v3:a.eval (.tmp 3)=.pointer (some ⟨b0,0,none⟩):=(hk 3 (by kernel_rfl)).trans rfl;exact Or.inl ⟨_,X,aq 64 _ rfl b0 0 v3 [.slice va l.length vc] _ zb0.at_ Try.underlying64 rfl (by kernel_rfl),zR,rfl⟩
  |1,rfl=>
   exact RY.p (.pointer (some ⟨(b0+1),0,none⟩)) (by simp[execOp,go_sem,RY.K hk 4 (.pointer (some ⟨(b0+1),0,none⟩))])
  |2,rfl=>
   have e8:=RY.E hd 1 8;have ycl_:=z_b0___1_.get 0 _ rfl;exact RY.p (.string x.key) (by simp[execOp,go_sem,e8,ycl_])
  |3,rfl=>
   have e7:=RY.E hd 0 7;have e9:=RY.E hd 2 9;refine Or.inr ⟨67,#[.agg #[.slice va l.length vc],.string x.key],by simp[go_sem,e7,e9],(tP l va vc x.key X HL.out (jB.out.ae hX)).mono ?_⟩;rintro e W' ⟨rfl,hb⟩;exact⟨_,rfl,hb,rfl⟩
  |5,rfl=>
   exact RY.p (.pointer (some ⟨(b0+2),0,none⟩)) (by simp[execOp,go_sem,RY.K hk 5 (.pointer (some ⟨(b0+2),0,none⟩))])
  |6,rfl=>
   have e12:=RY.E hd 5 12;have ycl_:=z_b0___2_.get 0 _ rfl;exact RY.p (.string y.key) (by simp[execOp,go_sem,e12,ycl_])
  |7,rfl=>
   have e11:=RY.E hd 4 11;have e13:=RY.E hd 6 13;refine Or.inr ⟨67,#[.agg #[.slice va l.length vc],.string y.key],by simp[go_sem,e11,e13],(tP l va vc y.key X HL.out (jB.out.ae hX)).mono ?_⟩;rintro e W' ⟨rfl,hb⟩;exact⟨_,rfl,hb,rfl⟩
  |8,rfl=>
   have e10:=RY.E hd 3 10;have e14:=RY.E hd 7 14;refine Or.inr ⟨79,#[.int .i64 (Pl.ixI (Pl.bJ l x.key)),.int .i64 (Pl.ixI (Pl.bJ l y.key))],by simp[go_sem,e10,e14],(Lf (Pl.ixI (Pl.bJ l x.key)) (Pl.ixI (Pl.bJ l y.key)) X).mono ?_⟩;rintro e W' ⟨rfl,rfl⟩;exact⟨_,rfl,zR,rfl⟩
  |9,rfl=>
   exact RY.p (.pointer (some ⟨(b0+1),1,none⟩)) (by simp[execOp,go_sem,RY.K hk 4 (.pointer (some ⟨(b0+1),0,none⟩))])
  |10,rfl=>
   have e16:=RY.E hd 9 16;have ycl_:=z_b0___1_.get 1 _ rfl;exact RY.p (.slice a1 x.ws.length c1) (by simp[execOp,go_sem,e16,ycl_])
  |11,rfl=>
   exact RY.p (.pointer (some ⟨(b0+2),1,none⟩)) (by simp[execOp,go_sem,RY.K hk 5 (.pointer (some ⟨(b0+2),0,none⟩))])
  |12,rfl=>
   have e18:=RY.E hd 11 18;have ycl_:=z_b0___2_.get 1 _ rfl;exact RY.p (.slice a2 y.ws.length c2) (by simp[execOp,go_sem,e18,ycl_])
  |13,rfl=>
   have e17:=RY.E hd 10 17;have e19:=RY.E hd 12 19;refine Or.inr ⟨80,#[.slice a1 x.ws.length c1,.slice a2 y.ws.length c2],by simp[go_sem,e17,e19],(FH x.ws y.ws _ _ X (EN.out.ae hX) (HYW.out.ae hX)).mono ?_⟩;rintro e W' ⟨rfl,rfl⟩;exact⟨_,rfl,zR,rfl⟩
  |14,rfl=>
   exact Or.inl ⟨.slice (some ⟨X.heap.size,0,none⟩) 2 2,X.alloc (.cells #[.int .i64 (dm (Pl.ixI (Pl.bJ l x.key)) (Pl.ixI (Pl.bJ l y.key))),.int .i64 (cK x.ws y.ws)] 3),by simp[execOp,go_sem,RY.E hd 8 15,RY.E hd 13 20],ah zR _,X.heap.size,rfl,World.cell?_alloc_at _ _ _ _ rfl,World.cell?_alloc_at _ _ _ _ rfl,by simp⟩
  |15,rfl=>
   obtain⟨g21,q21,qa21,qb21,_⟩:=hd 14 _ 21 rfl rfl ⟨⟨14,.data⟩,by simp,rfl,rfl⟩;have e21:a.tmps[21]?.getD undef=.slice (some ⟨g21,0,none⟩) 2 2:=(RY.af a 21).trans q21;refine Or.inr ⟨59,#[.slice (some ⟨g21,0,none⟩) 2 2],by simp[go_sem,e21],(zy g21 2 (dm (Pl.ixI (Pl.bJ l x.key)) (Pl.ixI (Pl.bJ l y.key))) (cK x.ws y.ws) X qa21 qb21).mono ?_⟩;rintro e W' ⟨rfl,rfl⟩;exact⟨_,rfl,zR,rfl⟩
  |16,rfl=>
   exact RY.p (.int .i64 (gZ l x y)) (by simp[execOp,go_sem,RY.E hd 15 22])
  |n+17,ho=>simp at ho
 intro X vs hX bd;have q6:vs 6=_:=bd 16 _ 6 rfl rfl;simp only[RY.aE,Act.put,List.setIfInBounds_toArray,List.set_cons_zero,List.set_cons_succ];rw[q6];generalize vs 7=s7,vs 8=s8,vs 9=s9,vs 10=s10,vs 11=s11,vs 12=s12,vs 13=s13,vs 14=s14,vs 15=s15,vs 16=s16,vs 17=s17,vs 18=s18,vs 19=s19,vs 20=s20,vs 21=s21,vs 22=s22;clear bd q6;go_wp2;go_ret;exact⟨rfl,ai HB.out hX⟩
def pH (l:List Pl.Ru) (L:List Pl.Ln):Bool:=(List.range (L.length - 1)).all fun i=>decide (gZ l (L.getD i Pl.aQ) (L.getD (i+1) Pl.aQ)<0)
theorem Fs (l:List Pl.Ru) (va:Option Addr) (vc:Nat) (D2:l.length≤100) (L:List Pl.Ln) (v:Value) (w:World) (uW:Raw w [.row 40 aC] [bQ l] [.slice va l.length vc]) (h:Raw w aJ [aU L] [v]):
  Calls Try.prog 65 #[v,.func (.func 66) #[.agg #[.slice va l.length vc]] #[]] w fun e w'=>e=.returned (.bool (pH l L))∧Bel w w':=by
 have HH:=uh h;have iD:=uh uW;obtain⟨a,c,ev⟩:=h.aP;subst ev;have hl:L.length≤maxLen:=by
  rcases cX h with⟨e,_⟩|⟨_,_,_,_,_,e,_⟩
  ·omega
  ·exact e
 unfold maxLen at hl;obtain⟨R,hR⟩:∃ R,R=pH l L:=⟨_,rfl⟩
 have HR:Hid (R=pH l L):=hR;rw[← hR];clear h hR uW;go_enter Try.func65,Try.ntmps65
 go_wp2;go_loopw [5] (fun i wr=>∃ j:Nat,j≤L.length - 1∧i=.int .i64 ((j+1:Nat):Int)∧(List.range j).all (fun i=>decide (gZ l (L.getD i Pl.aQ) (L.getD (i+1) Pl.aQ)<0))=true∧Bel w wr) (fun i _=>L.length - (intOf i).toNat)
 case atStart=>exact⟨0,zN,rfl,rfl,zR⟩
 case round=>
  obtain⟨j,hj,rfl,hq,hW⟩:=hrel;have HQ:=uh hq;clear hq;by_cases bN:j+1<L.length
  ·obtain⟨x,hx⟩:∃ x,x=L.getD j Pl.aQ:=⟨_,rfl⟩
   obtain⟨y,hy⟩:∃ y,y=L.getD (j+1) Pl.aQ:=⟨_,rfl⟩
   have qQ:=uh hW.drew;rcases cX (HH.out.ae hW.drew) with⟨e0,_⟩|⟨p,o,c',hv,hp,_,aZ⟩
   ·omega
   injection hv with g1 _ g3
   subst g1;subst g3;obtain⟨ax,cx,dO,dF⟩:=aZ j (by omega);obtain⟨ay,cy,mj,oX⟩:=aZ (j+1) bN;rw[← hx]at dO dF;rw[← hy]at mj oX;have x0:wr.drew.cell? ⟨p,o+j*2,none⟩=some (.string x.key):=aF dO 0 _ rfl;have x1:wr.drew.cell? ⟨p,o+j*2+1,none⟩=some (.slice ax x.ws.length cx):=aF dO 1 _ rfl;have y0:wr.drew.cell? ⟨p,o+(j+1)*2,none⟩=some (.string y.key):=aF mj 0 _ rfl;have y1:wr.drew.cell? ⟨p,o+(j+1)*2+1,none⟩=some (.slice ay y.ws.length cy):=aF mj 1 _ rfl;clear hW aZ dO mj;obtain⟨r,hr⟩:∃ r,r=gZ l x y:=⟨_,rfl⟩
   have qX:Hid (∀ W,Bel w W→Below wr.drew.heap.size wr.drew W→Calls Try.prog 66 #[.agg #[.slice va l.length vc],.agg #[.string x.key,.slice ax x.ws.length cx],.agg #[.string y.key,.slice ay y.ws.length cy]] W fun e w'=>e=.returned (.int .i64 r)∧Bel W w'):=fun W hb=>by
    rw[hr];exact fun h2=>Fo l va vc x y ax ay cx cy W D2 (iD.out.ae hb) (dF.ae h2) (oX.ae h2)
   have HP:Hid ((fun i=>decide (gZ l (L.getD i Pl.aQ) (L.getD (i+1) Pl.aQ)<0)) j=decide (r<0)):=by show _=_;rw[hr,hx,hy]
   clear hr hx hy dF oX;by_cases hz:r<0
   ·have HE:=uh (Pl.ep HQ.out (HP.out.trans (decide_eq_true hz)));go_wp2_with fail
    refine dG 10 (by kernel_rfl) (by kernel_rfl) ?_;intro W qx;rw[← qx]at hp qQ x0 x1 y0 y1;simp only[List.take_succ_cons,List.take_zero,List.drop_succ_cons,List.drop_zero];have By:Hid (W=wr.drew):=qx;clear qx;have th:(0:Int)≤(j:Int):=by omega
    have sZ:(j:Int)<(L.length:Int):=by omega
    have Ii:(0:Int)≤(j:Int)+1:=by omega
    have MR:(j:Int)+1<(L.length:Int):=by omega
    have Mb:IntKind.i64.wrap (j:Int)=(j:Int):=sU _ (by omega) (by omega);have HX:=uh (qX.out W qQ.out (by rw[By.out];exact zR));repeat still_step
    refine wpStill_nil ?_;go_wp2_with (go_at_call 66;refine HX.out.mono ?_;rintro e w2 ⟨rfl,dP⟩)
    go_roundw
    case rel=>exact⟨j+1,by omega,by go_num,HE.out,ai qQ.out dP⟩
    case measure=>simp[intOf];omega
   ·have HE:Hid (R=false):=by show _=_;rw[HR.out];exact Pl.eZ (k:=j) (by omega) (HP.out.trans (decide_eq_false hz))
    go_wp2_with fail
    refine dG 10 (by kernel_rfl) (by kernel_rfl) ?_;intro W qx;rw[← qx]at hp qQ x0 x1 y0 y1;simp only[List.take_succ_cons,List.take_zero,List.drop_succ_cons,List.drop_zero];have By:Hid (W=wr.drew):=qx;clear qx;have th:(0:Int)≤(j:Int):=by omega
    have sZ:(j:Int)<(L.length:Int):=by omega
    have Ii:(0:Int)≤(j:Int)+1:=by omega
    have MR:(j:Int)+1<(L.length:Int):=by omega
    have Mb:IntKind.i64.wrap (j:Int)=(j:Int):=sU _ (by omega) (by omega);have HX:=uh (qX.out W qQ.out (by rw[By.out];exact zR));repeat still_step
    refine wpStill_nil ?_;go_wp2_with (go_at_call 66;refine HX.out.mono ?_;rintro e w2 ⟨rfl,dP⟩)
    go_ret;exact⟨Pl.aB HE.out.symm,ai qQ.out dP⟩
  ·have HE:Hid (R=true):=by
    show R=true;rw[HR.out];have:j=L.length - 1:=by omega
    rw[this]at HQ;exact HQ.out
   go_wp2;go_ret;exact⟨Pl.aB HE.out.symm,hW⟩
def l8  (L:List Pl.Bl):Bool:=(List.range (L.length - 1)).all fun i=>decide (et (L.getD i Pl.aG) (L.getD (i+1) Pl.aG)<0)
theorem Fl  (L:List Pl.Bl) (v:Value) (w:World) (h:Raw w aV [aW L] [v]):
  Calls Try.prog 31 #[v,.func (.func 32) #[] #[]] w fun e w'=>e=.returned (.bool (l8 L))∧Bel w w':=by
 have HH:=uh h;obtain⟨a,c,ev⟩:=h.aP;subst ev;have hl:L.length≤maxLen:=by
  rcases cL h with⟨e,_⟩|⟨_,_,_,_,_,e,_⟩
  ·omega
  ·exact e
 unfold maxLen at hl;obtain⟨R,hR⟩:∃ R,R=l8 L:=⟨_,rfl⟩
 have HR:Hid (R=l8 L):=hR;rw[← hR];clear h hR;go_enter Try.func31,Try.ntmps31
 go_wp2;go_loopw [5] (fun i wr=>∃ j:Nat,j≤L.length - 1∧i=.int .i64 ((j+1:Nat):Int)∧(List.range j).all (fun i=>decide (et (L.getD i Pl.aG) (L.getD (i+1) Pl.aG)<0))=true∧Bel w wr) (fun i _=>L.length - (intOf i).toNat)
 case atStart=>exact⟨0,zN,rfl,rfl,zR⟩
 case round=>
  obtain⟨j,hj,rfl,hq,hW⟩:=hrel;have HQ:=uh hq;clear hq;by_cases bN:j+1<L.length
  ·obtain⟨x,hx⟩:∃ x,x=L.getD j Pl.aG:=⟨_,rfl⟩
   obtain⟨y,hy⟩:∃ y,y=L.getD (j+1) Pl.aG:=⟨_,rfl⟩
   have qQ:=uh hW.drew;rcases cL (HH.out.ae hW.drew) with⟨e0,_⟩|⟨p,o,c',hv,hp,_,aZ⟩
   ·omega
   injection hv with g1 _ g3
   subst g1;subst g3;obtain⟨ax,cx,dO,dF⟩:=aZ j (by omega);obtain⟨ay,cy,mj,oX⟩:=aZ (j+1) bN;rw[← hx]at dO dF;rw[← hy]at mj oX;have x0:wr.drew.cell? ⟨p,o+j*3,none⟩=some (.string x.kind):=aF dO 0 _ rfl;have x1:wr.drew.cell? ⟨p,o+j*3+1,none⟩=some (.string x.name):=aF dO 1 _ rfl;have x2:wr.drew.cell? ⟨p,o+j*3+2,none⟩=some (.slice ax x.lines.length cx):=aF dO 2 _ rfl;have y0:wr.drew.cell? ⟨p,o+(j+1)*3,none⟩=some (.string y.kind):=aF mj 0 _ rfl;have y1:wr.drew.cell? ⟨p,o+(j+1)*3+1,none⟩=some (.string y.name):=aF mj 1 _ rfl;have y2:wr.drew.cell? ⟨p,o+(j+1)*3+2,none⟩=some (.slice ay y.lines.length cy):=aF mj 2 _ rfl;clear hW aZ dO mj;obtain⟨r,hr⟩:∃ r,r=et x y:=⟨_,rfl⟩
   have qX:Hid (∀ W,Bel w W→Calls Try.prog 32 #[.agg #[.string x.kind,.string x.name,.slice ax x.lines.length cx],.agg #[.string y.kind,.string y.name,.slice ay y.lines.length cy]] W fun e w'=>e=.returned (.int .i64 r)∧Bel W w'):=fun W _=>by rw[hr];exact uD _ _ _ _ _ _ W
   have HP:Hid ((fun i=>decide (et (L.getD i Pl.aG) (L.getD (i+1) Pl.aG)<0)) j=decide (r<0)):=by show _=_;rw[hr,hx,hy]
   clear hr hx hy dF oX;by_cases hz:r<0
   ·have HE:=uh (Pl.ep HQ.out (HP.out.trans (decide_eq_true hz)));go_wp2_with fail
    refine dG 10 (by kernel_rfl) (by kernel_rfl) ?_;intro W qx;rw[← qx]at hp qQ x0 x1 x2 y0 y1 y2;simp only[List.take_succ_cons,List.take_zero,List.drop_succ_cons,List.drop_zero];clear qx;have th:(0:Int)≤(j:Int):=by omega
    have sZ:(j:Int)<(L.length:Int):=by omega
    have Ii:(0:Int)≤(j:Int)+1:=by omega
    have MR:(j:Int)+1<(L.length:Int):=by omega
    have Mb:IntKind.i64.wrap (j:Int)=(j:Int):=sU _ (by omega) (by omega);have HX:=uh (qX.out W qQ.out);repeat still_step
    refine wpStill_nil ?_;go_wp2_with (go_at_call 32;refine HX.out.mono ?_;rintro e w2 ⟨rfl,dP⟩)
    go_roundw
    case rel=>exact⟨j+1,by omega,by go_num,HE.out,ai qQ.out dP⟩
    case measure=>simp[intOf];omega
   ·have HE:Hid (R=false):=by show _=_;rw[HR.out];exact Pl.eZ (k:=j) (by omega) (HP.out.trans (decide_eq_false hz))
    go_wp2_with fail
    refine dG 10 (by kernel_rfl) (by kernel_rfl) ?_;intro W qx;rw[← qx]at hp qQ x0 x1 x2 y0 y1 y2;simp only[List.take_succ_cons,List.take_zero,List.drop_succ_cons,List.drop_zero];clear qx;have th:(0:Int)≤(j:Int):=by omega
    have sZ:(j:Int)<(L.length:Int):=by omega
    have Ii:(0:Int)≤(j:Int)+1:=by omega
    have MR:(j:Int)+1<(L.length:Int):=by omega
    have Mb:IntKind.i64.wrap (j:Int)=(j:Int):=sU _ (by omega) (by omega);have HX:=uh (qX.out W qQ.out);repeat still_step
    refine wpStill_nil ?_;go_wp2_with (go_at_call 32;refine HX.out.mono ?_;rintro e w2 ⟨rfl,dP⟩)
    go_ret;exact⟨Pl.aB HE.out.symm,ai qQ.out dP⟩
  ·have HE:Hid (R=true):=by
    show R=true;rw[HR.out];have:j=L.length - 1:=by omega
    rw[this]at HQ;exact HQ.out
   go_wp2;go_ret;exact⟨Pl.aB HE.out.symm,hW⟩
def cmE (p:ByteArray×Int×Nat):MapEntry:=⟨.string p.1,.int .i64 p.2.1,p.2.2⟩
def fV (x:ByteArray):List (ByteArray×Int×Nat)→Nat→Option (Nat×Int)
 |[],_=>none
 |p::M,i=>if x.toList==p.1.toList then some (i,p.2.1) else fV x M (i+1)
def gw (x:ByteArray):List (ByteArray×Int×Nat)→Int
 |[]=>0
 |p::M=>if x.toList==p.1.toList then p.2.1 else gw x M
def gv (x:ByteArray) (v:Int) (cl:Nat):List (ByteArray×Int×Nat)→List (ByteArray×Int×Nat)
 |[]=> [(x,v,cl)]
 |p::M=>if x.toList==p.1.toList then (x,v,p.2.2)::M else p::gv x v cl M
theorem tL (x:ByteArray):∀ (M:List (ByteArray×Int×Nat)) (i:Nat),Instr.findNow .string (.string x) (M.map cmE) i=some ((fV x M i).map fun q=>(q.1,.int .i64 q.2))
 |[],_=>rfl
 |p::M,i=>by
  have e:=ft x p.1.toList p.1 rfl;rw[List.map_cons];unfold cmE fV;rw[Instr.findNow];simp only[Instr.sameNow,e];cases x.toList==p.1.toList
  ·exact tL x M (i+1)
  ·rfl
theorem zM (x:ByteArray):∀ (M:List (ByteArray×Int×Nat)) (i:Nat),gw x M=match fV x M i with
   |none=>0
   |some q=>q.2
 |[],_=>rfl
 |p::M,i=>by
  unfold gw fV;cases x.toList==p.1.toList
  ·exact zM x M (i+1)
  ·rfl
theorem il {a b:ByteArray} (h:(a.toList==b.toList)=true):a=b:=by
 have h:=beq_iff_eq.1 h;cases a with
 |mk a=>
  cases b with
  |mk b=>
   rw[Pl.tl,Pl.tl]at h;exact congrArg ByteArray.mk (Array.toList_inj.1 h)
theorem pD (x:ByteArray) (v:Int) (cl:Nat):∀ (M:List (ByteArray×Int×Nat)) (i:Nat),fV x M i=none→M.map cmE++[⟨.string x,.int .i64 v,cl⟩]=(gv x v cl M).map cmE
 |[],_,_=>rfl
 |p::M,i,h=>by
  unfold fV at h;unfold gv;cases hq:x.toList==p.1.toList
  ·rw[hq]at h;simp only[Bool.false_eq_true,if_false]at h ⊢;rw[List.map_cons,List.map_cons,List.cons_append,pD x v cl M (i+1) h]
  ·rw[hq]at h;simp at h
theorem pE (x:ByteArray) (v:Int) (cl:Nat):∀ (M:List (ByteArray×Int×Nat)) (i j:Nat) (u:Int),fV x M i=some (j,u)→i≤j∧((M.map cmE)[j - i]?).map (·.key)=some (.string x)∧(M.map cmE).modify (j - i) (fun e=>{e with key:=.string x,val:=.int .i64 v})=(gv x v cl M).map cmE
 |[],_,_,_,h=>by cases h
 |p::M,i,j,u,h=>by
  unfold fV at h;unfold gv;cases hq:x.toList==p.1.toList
  ·rw[hq]at h;simp only[Bool.false_eq_true,if_false]at h ⊢;obtain⟨h1,h2,h3⟩:=pE x v cl M (i+1) j u h;obtain⟨d,hd⟩:∃ d,j - i=d+1:=⟨j - i - 1,by omega⟩
   have hd':j - (i+1)=d:=by omega
   rw[hd']at h2 h3;refine⟨by omega, ?_, ?_⟩
   ·rw[hd];simpa using h2
   ·rw[hd,List.map_cons,List.map_cons,← h3];rfl
  ·rw[hq]at h;simp only[if_true]at h;injection h with h
   injection h with e1 e2
   subst e1;have:=il hq;refine⟨zE, ?_, ?_⟩
   ·rw[Nat.sub_self,List.map_cons,this];rfl
   ·rw[Nat.sub_self,if_pos rfl,List.map_cons,List.map_cons];rfl
theorem jW (x y:ByteArray) (v:Int) (cl:Nat):∀ M:List (ByteArray×Int×Nat),gw y (gv x v cl M)=if y.toList==x.toList then v else gw y M
 |[]=>by unfold gv gw gw;rfl
 |p::M=>by
  unfold gv;cases hq:x.toList==p.1.toList
  ·simp only[Bool.false_eq_true,if_false];unfold gw;rw[jW x y v cl M];cases hy:y.toList==p.1.toList
   ·rfl
   ·have:(y.toList==x.toList)=false:=by
     have e:=beq_iff_eq.1 hy;rw[e,beq_eq_false_iff_ne];intro h;rw[h]at hq;simp at hq
    rw[this];rfl
  ·simp only[if_true];have e:=il hq;unfold gw;rw[← e];cases y.toList==x.toList<;>rfl
theorem Try.mJ:Try.prog.underlying 90=some (.map 9 3):=by kernel_rfl
theorem vd {W:World} {mb cl:Nat} {M:List (ByteArray×Int×Nat)} (hb:W.heap[mb]? =some (.map (M.map cmE).toArray cl)) (x:ByteArray):
  (Instr.lookup 90 (.map (some mb)) (.string x) false).run Try.prog W=.ok (.int .i64 (gw x M)) W:=by
 have hz:(zeroValue 3).run Try.prog W=.ok (.int .i64 0) W:=by kernel_rfl
 have hf:=gS W x (M.map cmE) _ (tL x M 0);rw[zM x M 0];cases hc:fV x M 0 with
 |none=>
  rw[hc]at hf;simp[Instr.lookup,run_underlying Try.mJ,MapKept.run_getObj_map hb,dq,hf,hz,Result.andThen]
 |some q=>
  rw[hc]at hf;simp[Instr.lookup,run_underlying Try.mJ,MapKept.run_getObj_map hb,dq,hf,Result.andThen]
theorem uj (W:World) (x:ByteArray):(Instr.keyThatStays (.string x) (.string x)).run Try.prog W=.ok (.string x) W:=by
 have:Instr.sameBits 10000 (.string x) (.string x)=true:=by
  show (x==x)=true;exact(ft x x.toList x rfl).trans (by simp)
 simp[Instr.keyThatStays,this]
theorem Fi {W:World} {mb cl:Nat} {M:List (ByteArray×Int×Nat)} (hb:W.heap[mb]? =some (.map (M.map cmE).toArray cl)) (x:ByteArray) (v:Int):
  ∃ JF,(Instr.mapUpdate 90 (.map (some mb)) (.string x) (.int .i64 v)).run Try.prog W=.ok () (gV W mb (.map ((gv x v cl M).map cmE).toArray JF)):=by
 have hf:=gS W x (M.map cmE) _ (tL x M 0);cases hc:fV x M 0 with
 |none=>
  rw[hc]at hf;have e:=pD x v cl M 0 hc;refine⟨cl+1, ?_⟩;rw[← e];simp[Instr.mapUpdate,run_underlying Try.mJ,MapKept.run_getObj_map hb,dq,hf,MapKept.run_setObj_map _ hb,Result.andThen,gV]
 |some q=>
  obtain⟨j,u⟩:=q;rw[hc]at hf;obtain⟨_,h2,h3⟩:=pE x v cl M 0 j u hc;rw[Nat.sub_zero]at h2 h3;refine⟨cl, ?_⟩;rw[← h3];have hs:=uj W x;have h2':(Option.map (fun e=>e.key) (M.map cmE)[j]?)=some (.string x):=h2;have h4:Option.map ((fun x=>x.key) ∘ cmE) M[j]? =some (.string x):=by rw[← h2'];simp
  simp[Instr.mapUpdate,run_underlying Try.mJ,MapKept.run_getObj_map hb,dq,hf,MapKept.run_setObj_map _ hb,Result.andThen,gV,h4,hs]
theorem uA (c0:ByteArray) (m:Bool) (v1 v3:Value) (w:World):
  Calls Try.prog 64 #[.agg #[.string c0,v1,.bool m,v3]] w fun e w'=>e=.returned (.int .i64 (if m then 10 else 1))∧Bel w w':=by
 cases m
 all_goals
  go_enter Try.func64,Try.ntmps64
  go_wp2;go_ret;exact⟨rfl,ah zR _⟩
namespace Pl
def nS (l:List Ru) (key:ByteArray) (ws:List ByteArray):Bool:=match bJ l key with
 |none=>false
 |some j=>gD (l.getD j aO).args ws
def nc (l:List Ru) (key:ByteArray):Bool:=match bJ l key with
 |none=>false
 |some j=>(l.getD j aO).many
def fG (l:List Ru) (L:List Ln) (i:Nat):Bool:=nS l (L.getD i aQ).key (L.getD i aQ).ws&& !decide ((if nc l (L.getD i aQ).key then (10:Int) else 1)<(aX (L.take (i+1)) (L.getD i aQ).key:Nat))
end Pl
def gL (l:List Pl.Ru) (L:List Pl.Ln):Bool:=(List.range L.length).all (Pl.fG l L)&&pH l L
theorem uB {l:List Pl.Ru} {key:ByteArray} {W:World} {e:Ending} (h:kQ l key W e) (har:∀ r∈l,∀ z∈r.args,1≤z∧z≤6):
  ∃ c0 a1 n1 c1 a3 n3 c3 kn,e=.returned (.tuple #[.agg #[.string c0,.slice a1 n1 c1,.bool (Pl.nc l key),.slice a3 n3 c3],.bool kn])∧(kn=false→∀ ws,Pl.nS l key ws=false)∧
   (kn=true→∀ (X:World),Bel W X→∀ (ws:List ByteArray) (wv:Value),Raw X [.row 9 [.s]] [.row ws.length (txD ws)] [wv]→(∀ y∈ws,y.size≤maxLen)→Calls Try.prog 63 #[.agg #[.string c0,.slice a1 n1 c1,.bool (Pl.nc l key),.slice a3 n3 c3],wv] X fun e w'=>e=.returned (.bool (Pl.nS l key ws))∧Bel X w'):=by
 unfold kQ at h;unfold Pl.nc Pl.nS;cases jR:Pl.bJ l key with
 |none=>
  rw[jR]at h;simp only at h ⊢;exact⟨_,_,_,_,_,_,_,false,h,by simp,(fun h=>by cases h)⟩
 |some j=>
  rw[jR]at h;simp only at h ⊢;have hj:=Pl.fm jR;obtain⟨a1,c1,a3,c3,he,hA,hD⟩:=h;refine⟨_,_,_,_,_,_,_,true,he,(fun h=>by cases h),fun _ X hX ws wv hw hs=>sy _ _ _ a1 c1 _ ws wv X (hA.ae hX) hw ?_ hs⟩;have e:l.getD j Pl.aO=l[j]:=by simp[hj]
  rw[e];exact har _ (List.getElem_mem hj)
theorem Pl.sR (L:List Pl.Ln) (k:Nat) (hk:k<L.length) (y:ByteArray):Pl.aX (L.take (k+1)) y=if y.toList==(L.getD k Pl.aQ).key.toList then Pl.aX (L.take k) (L.getD k Pl.aQ).key+1 else Pl.aX (L.take k) y:=by
 have e:L.getD k Pl.aQ=L[k]:=by simp[hk]
 unfold Pl.aX;rw[e,List.take_succ_eq_append_getElem hk,List.countP_append];have c:List.countP (fun x=>Pl.eC x.key y) [L[k]]=if Pl.eC L[k].key y then 1 else 0:=by
  rw[List.countP_cons,List.countP_nil];simp
 rw[c];unfold Pl.eC;cases hy:y.toList==L[k].key.toList
 ·have:(L[k].key.toList==y.toList)=false:=by
   rw[beq_eq_false_iff_ne]at hy ⊢;exact fun h=>hy h.symm
  rw[this];rfl
 ·have:=il hy;subst this;simp
def VHA :Nat→Value→World→Prop
 |0,vv,_=>vv=.bool false
 |1,vv,_|2,vv,_|8,vv,_|9,vv,_|17,vv,_=>vv=.bool true
 |3,vv,_|4,vv,_|5,vv,_|6,vv,_|7,vv,_|10,vv,_|11,vv,_|12,vv,_|13,vv,_|14,vv,_|15,vv,_|16,vv,_=>vv=undef
 |_,_,_=>True
theorem zu :∀ jj vv W W',Bel W W'→VHA  jj vv W→VHA  jj vv W':=by
 intro jj vv W W' hb h;match jj with
 |0|1|2|3|4|5|6|7|8|9|10|11|12|13|14|15|16|17=>exact h
 |n+18=>exact trivial
def VHB (bl:Nat) (n1:Nat) (c1:Nat) (n3:Nat) (c3:Nat) (cx:Nat) (ax:Option Addr) (a1:Option Addr) (a3:Option Addr) (m:Bool) (c0:ByteArray) (x:Pl.Ln):Nat→Value→World→Prop
 |0,vv,_|7,vv,_|8,vv,_|9,vv,_|17,vv,_=>vv=.bool true
 |1,vv,_|2,vv,_|6,vv,_=>vv=.bool false
 |3,vv,_=>vv=.agg #[.string c0,.slice a1 n1 c1,.bool m,.slice a3 n3 c3]
 |4,vv,_=>vv=.pointer (some ⟨bl,1,none⟩)
 |5,vv,_=>vv=.slice ax x.ws.length cx
 |10,vv,_|11,vv,_|12,vv,_|13,vv,_|14,vv,_|15,vv,_|16,vv,_=>vv=undef
 |_,_,_=>True
theorem yY (bl:Nat) (n1:Nat) (c1:Nat) (n3:Nat) (c3:Nat) (cx:Nat) (ax:Option Addr) (a1:Option Addr) (a3:Option Addr) (m:Bool) (c0:ByteArray) (x:Pl.Ln):∀ jj vv W W',Bel W W'→VHB bl n1 c1 n3 c3 cx ax a1 a3 m c0 x jj vv W→VHB bl n1 c1 n3 c3 cx ax a1 a3 m c0 x jj vv W':=by
 intro jj vv W W' hb h;match jj with
 |0|1|2|3|4|5|6|7|8|9|10|11|12|13|14|15|16|17=>exact h
 |n+18=>exact trivial
def VHC (b0:Nat) (bl:Nat) (n1:Nat) (c1:Nat) (n3:Nat) (c3:Nat) (cx:Nat) (nn:Nat) (mo:Int) (ax:Option Addr) (a1:Option Addr) (a3:Option Addr) (m:Bool) (c0:ByteArray) (x:Pl.Ln):Nat→Value→World→Prop
 |0,vv,_|6,vv,_=>vv=.bool true
 |1,vv,_|2,vv,_|7,vv,_|8,vv,_|9,vv,_=>vv=.bool false
 |3,vv,_|14,vv,_=>vv=.agg #[.string c0,.slice a1 n1 c1,.bool m,.slice a3 n3 c3]
 |4,vv,_=>vv=.pointer (some ⟨bl,1,none⟩)
 |5,vv,_=>vv=.slice ax x.ws.length cx
 |10,vv,_=>vv=.map (some (b0+1))
 |11,vv,_=>vv=.pointer (some ⟨bl,0,none⟩)
 |12,vv,_=>vv=.string x.key
 |13,vv,_=>vv=.int .i64 ((nn+1:Nat):Int)
 |15,vv,_=>vv=.int .i64 mo
 |16,vv,_|17,vv,_=>vv=.bool (decide (mo<((nn+1:Nat):Int)))
 |_,_,_=>True
theorem y5 (b0:Nat) (bl:Nat) (n1:Nat) (c1:Nat) (n3:Nat) (c3:Nat) (cx:Nat) (nn:Nat) (mo:Int) (ax:Option Addr) (a1:Option Addr) (a3:Option Addr) (m:Bool) (c0:ByteArray) (x:Pl.Ln):∀ jj vv W W',Bel W W'→VHC b0 bl n1 c1 n3 c3 cx nn mo ax a1 a3 m c0 x jj vv W→VHC b0 bl n1 c1 n3 c3 cx nn mo ax a1 a3 m c0 x jj vv W':=by
 intro jj vv W W' hb h;match jj with
 |0|1|2|3|4|5|6|7|8|9|10|11|12|13|14|15|16|17=>exact h
 |n+18=>exact trivial
theorem FC (l:List Pl.Ru) (va:Option Addr) (vc:Nat) (L:List Pl.Ln) (v:Value) (w:World) (hl:l.length≤100) (har:∀ r∈l,∀ z∈r.args,1≤z∧z≤6) (uW:Raw w [.row 40 aC] [bQ l] [.slice va l.length vc]) (h:Raw w aJ [aU L] [v]) (hz:∀ x∈L,∀ y∈x.ws,y.size≤maxLen):
  Calls Try.prog 35 #[.agg #[.slice va l.length vc],v] w fun e w'=>e=.returned (.bool (gL l L))∧Bel w w':=by
 obtain⟨a,c,ev⟩:=h.aP;subst ev;have hlen:L.length≤maxLen:=by
  rcases cX h with⟨e,_⟩|⟨_,_,_,_,_,e,_⟩
  ·omega
  ·exact e
 unfold maxLen at hlen;obtain⟨R,hR⟩:∃ R,R=gL l L:=⟨_,rfl⟩
 have HR:Hid (R=gL l L):=hR;rw[← hR];have HH:=uh h;have iD:=uh uW;have HZ:=uh hz;have HL:=uh hl;have L1:=uh har;clear h uW hR hz hl har;obtain⟨wa,aS⟩:∃ wa,wa=(w.alloc (.cells #[.slice va l.length vc] 64)).alloc (.map #[] 0):=⟨_,rfl⟩
 obtain⟨b0,bD⟩:∃ b0,b0=w.heap.size:=⟨_,rfl⟩
 have iG:=uh bD;have HB:Hid (Bel w wa):=by show Below _ _ _;rw[aS];exact ah (ah zR _) _
 have eA:Hid (aD wa b0 [.slice va l.length vc]):=by show aD _ _ _;rw[aS,bD];exact(aD.new w #[.slice va l.length vc] _ _ rfl).fI _
 have Jw:Hid (wa.heap[b0+1]? =some (.map (([]:List (ByteArray×Int×Nat)).map cmE).toArray 0)):=by
  show _=_;have q:=(MapKept.heap_alloc (w.alloc (.cells #[.slice va l.length vc] 64)) (.map #[] 0)).1;have K5:(w.alloc (.cells #[.slice va l.length vc] 64)).heap.size=w.heap.size+1:=by simp
  rw[K5]at q;rw[aS,bD];exact q
 go_enter Try.func35,Try.ntmps35
 have jV:∀ W:World,(Instr.makeMap 90 none).run Try.prog W=.ok (.map (some W.heap.size)) (W.alloc (.map #[] 0)):=fun W=>by kernel_rfl
 go_upto_region 3 with fail
 rw[← aS,← bD];clear aS bD jV;go_loopw [13] (fun i wr=>∃ (k:Nat) (M:List (ByteArray×Int×Nat)) (cl:Nat),k≤L.length∧i=.int .i64 k∧(List.range k).all (Pl.fG l L)=true∧aD wr b0 [.slice va l.length vc]∧wr.heap[b0+1]? =some (.map (M.map cmE).toArray cl)∧(∀ y,gw y M=(Pl.aX (L.take k) y:Nat))∧Bel w wr) (fun i _=>L.length - (intOf i).toNat)
 case atStart=>exact⟨0,[],0,zN,rfl,rfl,eA.out,Jw.out,fun y=>rfl,HB.out⟩
 case round=>
  obtain⟨k,M,cl,hk,rfl,bC,hK,hM,hG,hW⟩:=hrel;have HK:=uh hK;have HM:=uh hM;have HG:=uh hG;have Ba:=uh bC;have HW:=uh hW;have zk:=hK.get 0 _ rfl;have zl:=hK.lt;clear hK hM hG bC hW;by_cases bN:k<L.length
  rotate_left
  ·obtain rfl:k=L.length:=by omega
   have BW:=uh (Fs l va vc HL.out L (.slice a L.length c) wr (iD.out.ae HW.out) (HH.out.ae HW.out));have HE:Hid (R=pH l L):=by show R=_;rw[HR.out,gL,Ba.out,Bool.true_and]
   go_wp2_with (go_at_call 65;refine BW.out.mono ?_;rintro e w2 ⟨rfl,dP⟩)
   go_ret;exact⟨Pl.aB HE.out.symm,ai HW.out dP⟩
  rcases cX HH.out with⟨e0,_⟩|⟨p,o,c',hv,hp,_,aZ⟩
  ·omega
  injection hv with g1 _ g3
  subst g1;subst g3;obtain⟨ax,cx,hg,dF⟩:=aZ k bN;obtain⟨x,hx⟩:∃ x,x=L.getD k Pl.aQ:=⟨_,rfl⟩
  rw[← hx]at hg dF;have x0:wr.cell? ⟨p,o+k*2,none⟩=some (.string x.key):=aF (aA hg hp HW.out) 0 _ rfl;have x1:wr.cell? ⟨p,o+k*2+1,none⟩=some (.slice ax x.ws.length cx):=aF (aA hg hp HW.out) 1 _ rfl;have H8:p<wr.heap.size:=zL hp HW.out.size;have dd:(0:Int)≤(k:Int):=by omega
  have de:(k:Int)<(L.length:Int):=by omega
  have x6:Hid (∀ y∈x.ws,y.size≤maxLen):=by
   have e:L.getD k Pl.aQ=L[k]:=by simp[bN]
   rw[hx,e];exact HZ.out _ (List.getElem_mem bN)
  have EN:=uh dF;obtain⟨nn,eD⟩:∃ nn,nn=Pl.aX (L.take k) x.key:=⟨_,rfl⟩
  have H7:nn≤k:=by
   rw[eD];unfold Pl.aX;exact Nat.le_trans List.countP_le_length (by rw[List.length_take];omega)
  have tx:Hid (∀ y,Pl.aX (L.take (k+1)) y=if y.toList==x.key.toList then nn+1 else Pl.aX (L.take k) y):=fun y=>by rw[eD,hx];exact Pl.sR L k bN y
  have xM:Hid (Pl.fG l L k=(Pl.nS l x.key x.ws&& !decide ((if Pl.nc l x.key then (10:Int) else 1)<((nn+1:Nat):Int)))):=by
   show _=_;unfold Pl.fG;rw[← hx,tx.out x.key];simp
  have eB:Hid (gw x.key M=(nn:Nat)):=by show _=_;rw[HG.out,eD]
  clear aZ hg dF hx eD;obtain⟨bl,gM⟩:∃ bl,bl=wr.heap.size:=⟨_,rfl⟩
  obtain⟨wb,fP⟩:∃ wb,wb=wr.alloc (.cells #[.string x.key,.slice ax x.ws.length cx] 53):=⟨_,rfl⟩
  have Gw:Hid (Bel wr wb):=by show Below _ _ _;rw[fP];exact ah zR _
  have Hh:Hid (aD wb bl [.string x.key,.slice ax x.ws.length cx]):=by show aD _ _ _;rw[fP,gM];exact aD.new wr #[.string x.key,.slice ax x.ws.length cx] _ _ rfl
  have qI:=uh (HK.out.ae Gw.out);have zkb:=qI.out.get 0 _ rfl;have zlb:=qI.out.lt;have LS:=uh gM;have zb0:=Hh.out.get 0 _ rfl;have zb1:=Hh.out.lt;have HC:=uh (AA l va vc x.key w wb (ai HW.out Gw.out) HL.out iD.out);go_upto_region 5 with fail
  rw[← fP,← gM];clear fP gM x0 x1;go_wp2_with fail
  refine HC.out.mono ?_;rintro e w1 ⟨qY,bZ⟩;obtain⟨c0,a1,n1,c1,a3,n3,c3,kn,he,IC,I2⟩:=uB qY L1.out;subst he;have qA:=uh IC;have uR:=uh I2;clear IC I2 qY HC;obtain⟨m,hm⟩:∃ m,m=Pl.nc l x.key:=⟨_,rfl⟩
  rw[← hm]at uR xM ⊢;clear hm;obtain⟨br,BM⟩:∃ br,br=w1.heap.size:=⟨_,rfl⟩
  obtain⟨w2,kX⟩:∃ w2,w2=w1.alloc (.cells #[.string c0,.slice a1 n1 c1,.bool m,.slice a3 n3 c3] 40):=⟨_,rfl⟩
  have D9:Hid (Bel w1 w2):=by show Below _ _ _;rw[kX];exact ah zR _
  have JE:Hid (Bel wr w2):=ai Gw.out (ai bZ D9.out);have ME:Hid (aD w2 br [.string c0,.slice a1 n1 c1,.bool m,.slice a3 n3 c3]):=by show aD _ _ _;rw[kX,BM];exact aD.new w1 #[.string c0,.slice a1 n1 c1,.bool m,.slice a3 n3 c3] _ _ rfl
  have Gy:=uh ((Hh.out.ae bZ).ae D9.out);have yj:=uh ((qI.out.ae bZ).ae D9.out);have gi:w1.heap.size≤w2.heap.size:=D9.out.size;have ee:wr.heap.size≤w1.heap.size:=Nat.le_trans Gw.out.size bZ.size;have hz9:b0+1<wr.heap.size:=by
   by_cases q:b0+1<wr.heap.size
   ·exact q
   ·have:=HM.out;rw[Array.getElem?_eq_none (by omega)]at this;cases this
  have iB:Hid (w2.heap[b0+1]? =some (.map (M.map cmE).toArray cl)):=(JE.out.block _ hz9).trans HM.out;have HWB1:=uh bZ;have oE:=vd iB.out x.key;rw[eB.out]at oE;obtain⟨JF,oD⟩:=Fi iB.out x.key ((nn+1:Nat):Int);have hwr:IntKind.i64.wrap ((nn:Int)+1)=(nn:Int)+1:=sU _ (by omega) (by omega);have y0:=Gy.out.get 0 _ rfl;have yl:=Gy.out.lt;obtain⟨wm,KP⟩:∃ wm,wm=gV w2 (b0+1) (.map ((gv x.key ((nn+1:Nat):Int) cl M).map cmE).toArray JF):=⟨_,rfl⟩
  rw[← KP,show ((nn+1:Nat):Int)=(nn:Int)+1 by omega]at oD;have oB:Hid (Marks (fun b=>b=b0+1) w2 wm):=by show Marks _ _ _;rw[KP];exact fT _ iB.out
  have HMM:Hid (wm.heap[b0+1]? =some (.map ((gv x.key ((nn+1:Nat):Int) cl M).map cmE).toArray JF)):=by show _=_;rw[KP];exact mM _ (by omega)
  go_upto_region 6 with fail
  rw[← kX,← BM];clear kX KP zk zl zkb zlb zb0 zb1;have HBRZ:=uh BM;have zbl:=LS.out;have I7:br≠b0+1:=by omega
  have I8:bl≠b0+1:=by omega
  have Ki:b0≠b0+1:=by omega
  have HKM:=uh (yj.out.mks oB.out Ki);have Cd:=uh (Gy.out.mks oB.out I8);have uT:=uh (ME.out.mks oB.out I7);have EU:Hid (Bel w wm):=oB.out.below (fun b e=>by have:=iG.out;omega) (ai HW.out JE.out);have HB1M:Hid (Bel wr wm→True):=fun _=>trivial;have HMP:Hid (∀ X,Bel wm X→X.heap[b0+1]? =some (.map ((gv x.key ((nn+1:Nat):Int) cl M).map cmE).toArray JF)):=fun X hX=>(hX.block _ (by have:=oB.out.size;omega)).trans HMM.out;have GC:Hid (gw x.key (gv x.key ((nn+1:Nat):Int) cl M)=((nn+1:Nat):Int)):=by show _=_;rw[jW];simp
  have HGA:Hid (∀ y,gw y (gv x.key ((nn+1:Nat):Int) cl M)=(Pl.aX (L.take (k+1)) y:Nat)):=fun y=>by
   rw[jW,tx.out y,HG.out y];cases y.toList==x.key.toList<;>rfl
  clear zbl BM I7 I8 Ki;go_upto_region 7 with fail
  obtain⟨mo,Ew⟩:∃ mo:Int,mo=if m then 10 else 1:=⟨_,rfl⟩
  rw[← Ew]at xM;have HMO:Hid (∀ X,Calls Try.prog 64 #[.agg #[.string c0,.slice a1 n1 c1,.bool m,.slice a3 n3 c3]] X fun e w'=>e=.returned (.int .i64 mo)∧Bel X w'):=fun X=>by rw[Ew];exact uA _ _ _ _ X
  clear Ew oE oD hwr y0 yl;have Bx:Hid (Pl.fG l L k=false→R=false):=fun hq=>by rw[HR.out,gL,Pl.eZ bN hq];rfl
  cases kn
  ·have qJ:Hid (True→R=false):=fun _=>Bx.out (by rw[xM.out,qA.out rfl];rfl);refine RY.aH wm zR (VHA) (zu) (by kernel_rfl) (by kernel_rfl) (by kernel_rfl) (by kernel_rfl) ?_ ?_
   ·intro ii o' ho a X hX hk hd;have zbl:=Cd.out.ae hX;have zbll:=zbl.lt;have zbr:=uT.out.ae hX;have zbrl:=zbr.lt;match ii,ho with
    |0,rfl=>
     exact RY.n (RY.p (.bool false) (by simp[execOp,go_sem,RY.K hk 9 (.bool false)]))
    |1,rfl=>
     exact RY.n (RY.p (.bool true) (by simp[execOp,go_sem,RY.E hd 0 29]))
    |2,rfl=>
     exact RY.n (RY.p (.bool true) (by simp[execOp,go_sem,RY.E hd 1 30]))
    |3,rfl|4,rfl|5,rfl|6,rfl|7,rfl=>
     exact RY.off hd 2 31
    |8,rfl=>
     exact RY.n (RY.p (.bool true) (by simp[execOp,go_sem,RY.E hd 2 31,RY.E hd 7 36]))
    |9,rfl=>
     exact RY.n (RY.p (.bool true) (by simp[execOp,go_sem,RY.E hd 8 37]))
    |10,rfl|11,rfl|12,rfl|13,rfl|14,rfl|15,rfl|16,rfl=>
     exact RY.off hd 9 38
    |17,rfl=>
     exact RY.n (RY.p (.bool true) (by simp[execOp,go_sem,RY.E hd 9 38,RY.E hd 16 45]))
    |n+18,ho=>simp at ho
   intro X vs hX bd;have q46:vs 46=_:=bd 17 _ 46 rfl rfl;simp only[RY.aE,Act.put,List.setIfInBounds_toArray,List.set_cons_zero,List.set_cons_succ];rw[q46];generalize vs 29=s29,vs 30=s30,vs 31=pY,vs 32=o6,vs 33=og,vs 34=oz,vs 35=k6,vs 36=k9,vs 37=lj,vs 38=lY,vs 39=mu,vs 40=s40,vs 41=s41,vs 42=s42,vs 43=s43,vs 44=s44,vs 45=s45;clear bd q46;go_wp2;go_ret;exact⟨Pl.aB (qJ.out trivial).symm,ai EU.out hX⟩
  ·cases pc:Pl.nS l x.key x.ws
   ·have qS:Hid (∀ X,Bel wm X→Calls Try.prog 63 #[.agg #[.string c0,.slice a1 n1 c1,.bool m,.slice a3 n3 c3],.slice ax x.ws.length cx] X fun e w'=>e=.returned (.bool false)∧Bel X w'):=fun X hX=>by
     have q:=uR.out rfl X (ai EU.out hX) x.ws _ (EN.out.ae (ai EU.out hX)) x6.out;rw[pc]at q;exact q
    have qJ:Hid (True→R=false):=fun _=>Bx.out (by rw[xM.out,pc];rfl);clear pc;refine RY.aH wm zR (VHB bl n1 c1 n3 c3 cx ax a1 a3 m c0 x) (yY _ _ _ _ _ _ _ _ _ _ _ _) (by kernel_rfl) (by kernel_rfl) (by kernel_rfl) (by kernel_rfl) ?_ ?_
    ·intro ii o' ho a X hX hk hd;have zbl:=Cd.out.ae hX;have zbll:=zbl.lt;have zbr:=uT.out.ae hX;have zbrl:=zbr.lt;match ii,ho with
     |0,rfl=>
      exact RY.n (RY.p (.bool true) (by simp[execOp,go_sem,RY.K hk 9 (.bool true)]))
     |1,rfl=>
      exact RY.n (RY.p (.bool false) (by simp[execOp,go_sem,RY.E hd 0 29]))
     |2,rfl=>
      exact RY.n (RY.p (.bool false) (by simp[execOp,go_sem,RY.E hd 1 30]))
     |3,rfl=>
      have gd:=hd 2 _ 31 rfl rfl ⟨⟨2,.guard⟩,by simp,rfl,rfl⟩;have v8:a.eval (.tmp 8)=.pointer (some ⟨br,0,none⟩):=(hk 8 (by kernel_rfl)).trans rfl;exact Or.inl ⟨(RY.ak rfl rfl rfl gd).trans rfl,Or.inl ⟨_,X,aq 40 _ rfl br 0 v8 [.string c0,.slice a1 n1 c1,.bool m,.slice a3 n3 c3] _ zbr.at_ Try.underlying40 rfl (by kernel_rfl),zR,rfl⟩⟩
     |4,rfl=>
      exact RY.on hd 2 31 (RY.p (.pointer (some ⟨bl,1,none⟩)) (by simp[execOp,go_sem,RY.K hk 7 (.pointer (some ⟨bl,0,none⟩))]))
     |5,rfl=>
      have e33:=RY.E hd 4 33;have ycl_:=zbl.get 1 _ rfl;exact RY.on hd 2 31 (RY.p (.slice ax x.ws.length cx) (by simp[execOp,go_sem,e33,ycl_]))
     |6,rfl=>
      have e32:=RY.E hd 3 32;have e34:=RY.E hd 5 34;refine RY.on hd 2 31 (.inr ⟨63,#[.agg #[.string c0,.slice a1 n1 c1,.bool m,.slice a3 n3 c3],.slice ax x.ws.length cx],by simp[go_sem,e32,e34],(qS.out X hX).mono ?_⟩);rintro e W' ⟨rfl,hb⟩;exact⟨_,rfl,hb,rfl⟩
     |7,rfl=>
      exact RY.on hd 2 31 (RY.p (.bool true) (by simp[execOp,go_sem,RY.E hd 6 35]))
     |8,rfl=>
      exact RY.n (RY.p (.bool true) (by simp[execOp,go_sem,RY.E hd 2 31,RY.E hd 7 36]))
     |9,rfl=>
      exact RY.n (RY.p (.bool true) (by simp[execOp,go_sem,RY.E hd 8 37]))
     |10,rfl|11,rfl|12,rfl|13,rfl|14,rfl|15,rfl|16,rfl=>
      exact RY.off hd 9 38
     |17,rfl=>
      exact RY.n (RY.p (.bool true) (by simp[execOp,go_sem,RY.E hd 9 38,RY.E hd 16 45]))
     |n+18,ho=>simp at ho
    intro X vs hX bd;have q46:vs 46=_:=bd 17 _ 46 rfl rfl;simp only[RY.aE,Act.put,List.setIfInBounds_toArray,List.set_cons_zero,List.set_cons_succ];rw[q46];generalize vs 29=s29,vs 30=s30,vs 31=pY,vs 32=o6,vs 33=og,vs 34=oz,vs 35=k6,vs 36=k9,vs 37=lj,vs 38=lY,vs 39=mu,vs 40=s40,vs 41=s41,vs 42=s42,vs 43=s43,vs 44=s44,vs 45=s45;clear bd q46;go_wp2;go_ret;exact⟨Pl.aB (qJ.out trivial).symm,ai EU.out hX⟩
   ·have qS:Hid (∀ X,Bel wm X→Calls Try.prog 63 #[.agg #[.string c0,.slice a1 n1 c1,.bool m,.slice a3 n3 c3],.slice ax x.ws.length cx] X fun e w'=>e=.returned (.bool true)∧Bel X w'):=fun X hX=>by
     have q:=uR.out rfl X (ai EU.out hX) x.ws _ (EN.out.ae (ai EU.out hX)) x6.out;rw[pc]at q;exact q
    have qJ:Hid (mo<((nn+1:Nat):Int)→R=false):=fun hq=>Bx.out (by rw[xM.out,pc,decide_eq_true hq];rfl);have BC:Hid (¬ mo<((nn+1:Nat):Int)→(List.range (k+1)).all (Pl.fG l L)=true):=fun hq=>Pl.ep Ba.out (by rw[xM.out,pc,decide_eq_false hq];rfl);clear pc;refine RY.aH wm zR (VHC b0 bl n1 c1 n3 c3 cx nn mo ax a1 a3 m c0 x) (y5 _ _ _ _ _ _ _ _ _ _ _ _ _ _ _) (by kernel_rfl) (by kernel_rfl) (by kernel_rfl) (by kernel_rfl) ?_ ?_
    ·intro ii o' ho a X hX hk hd;have zbl:=Cd.out.ae hX;have zbll:=zbl.lt;have zbr:=uT.out.ae hX;have zbrl:=zbr.lt;match ii,ho with
     |0,rfl=>
      exact RY.n (RY.p (.bool true) (by simp[execOp,go_sem,RY.K hk 9 (.bool true)]))
     |1,rfl=>
      exact RY.n (RY.p (.bool false) (by simp[execOp,go_sem,RY.E hd 0 29]))
     |2,rfl=>
      exact RY.n (RY.p (.bool false) (by simp[execOp,go_sem,RY.E hd 1 30]))
     |3,rfl=>
      have gd:=hd 2 _ 31 rfl rfl ⟨⟨2,.guard⟩,by simp,rfl,rfl⟩;have v8:a.eval (.tmp 8)=.pointer (some ⟨br,0,none⟩):=(hk 8 (by kernel_rfl)).trans rfl;exact Or.inl ⟨(RY.ak rfl rfl rfl gd).trans rfl,Or.inl ⟨_,X,aq 40 _ rfl br 0 v8 [.string c0,.slice a1 n1 c1,.bool m,.slice a3 n3 c3] _ zbr.at_ Try.underlying40 rfl (by kernel_rfl),zR,rfl⟩⟩
     |4,rfl=>
      exact RY.on hd 2 31 (RY.p (.pointer (some ⟨bl,1,none⟩)) (by simp[execOp,go_sem,RY.K hk 7 (.pointer (some ⟨bl,0,none⟩))]))
     |5,rfl=>
      have e33:=RY.E hd 4 33;have ycl_:=zbl.get 1 _ rfl;exact RY.on hd 2 31 (RY.p (.slice ax x.ws.length cx) (by simp[execOp,go_sem,e33,ycl_]))
     |6,rfl=>
      have e32:=RY.E hd 3 32;have e34:=RY.E hd 5 34;refine RY.on hd 2 31 (.inr ⟨63,#[.agg #[.string c0,.slice a1 n1 c1,.bool m,.slice a3 n3 c3],.slice ax x.ws.length cx],by simp[go_sem,e32,e34],(qS.out X hX).mono ?_⟩);rintro e W' ⟨rfl,hb⟩;exact⟨_,rfl,hb,rfl⟩
     |7,rfl=>
      exact RY.on hd 2 31 (RY.p (.bool false) (by simp[execOp,go_sem,RY.E hd 6 35]))
     |8,rfl=>
      exact RY.n (RY.p (.bool false) (by simp[execOp,go_sem,RY.E hd 2 31,RY.E hd 7 36]))
     |9,rfl=>
      exact RY.n (RY.p (.bool false) (by simp[execOp,go_sem,RY.E hd 8 37]))
     |10,rfl=>
      exact RY.on hd 9 38 (RY.p (.map (some (b0+1))) (by simp[execOp,go_sem,RY.K hk 5 (.map (some (b0+1)))]))
     |11,rfl=>
      exact RY.on hd 9 38 (RY.p (.pointer (some ⟨bl,0,none⟩)) (by simp[execOp,go_sem,RY.K hk 7 (.pointer (some ⟨bl,0,none⟩))]))
     |12,rfl=>
      have e40:=RY.E hd 11 40;have ycl_:=zbl.get 0 _ rfl;exact RY.on hd 9 38 (RY.p (.string x.key) (by simp[execOp,go_sem,e40,ycl_]))
     |13,rfl=>
      have gd:=hd 9 _ 38 rfl rfl ⟨⟨9,.guard⟩,by simp,rfl,rfl⟩;have e39:=RY.E hd 10 39;have e41:=RY.E hd 12 41;have oE:=vd (HMP.out X hX) x.key;rw[GC.out]at oE;exact Or.inl ⟨(RY.ak rfl rfl rfl gd).trans rfl,Or.inl ⟨_,X,by simp[execOp,go_sem,e39,e41,oE],zR,rfl⟩⟩
     |14,rfl=>
      have gd:=hd 9 _ 38 rfl rfl ⟨⟨9,.guard⟩,by simp,rfl,rfl⟩;have v8:a.eval (.tmp 8)=.pointer (some ⟨br,0,none⟩):=(hk 8 (by kernel_rfl)).trans rfl;exact Or.inl ⟨(RY.ak rfl rfl rfl gd).trans rfl,Or.inl ⟨_,X,aq 40 _ rfl br 0 v8 [.string c0,.slice a1 n1 c1,.bool m,.slice a3 n3 c3] _ zbr.at_ Try.underlying40 rfl (by kernel_rfl),zR,rfl⟩⟩
     |15,rfl=>
      have e43:=RY.E hd 14 43;refine RY.on hd 9 38 (.inr ⟨64,#[.agg #[.string c0,.slice a1 n1 c1,.bool m,.slice a3 n3 c3]],by simp[go_sem,e43],(HMO.out X).mono ?_⟩);rintro e W' ⟨rfl,hb⟩;exact⟨_,rfl,hb,rfl⟩
     |16,rfl=>
      exact RY.on hd 9 38 (RY.p (.bool (decide (mo<((nn+1:Nat):Int)))) (by simp[execOp,go_sem,RY.E hd 13 42,RY.E hd 15 44]))
     |17,rfl=>
      exact RY.n (RY.p (.bool (decide (mo<((nn+1:Nat):Int)))) (by simp[execOp,go_sem,RY.E hd 9 38,RY.E hd 16 45]))
     |n+18,ho=>simp at ho
    intro X vs hX bd;have q46:vs 46=_:=bd 17 _ 46 rfl rfl;simp only[RY.aE,Act.put,List.setIfInBounds_toArray,List.set_cons_zero,List.set_cons_succ];rw[q46];generalize vs 29=s29,vs 30=s30,vs 31=pY,vs 32=o6,vs 33=og,vs 34=oz,vs 35=k6,vs 36=k9,vs 37=lj,vs 38=lY,vs 39=mu,vs 40=s40,vs 41=s41,vs 42=s42,vs 43=s43,vs 44=s44,vs 45=s45;clear bd q46;by_cases Ew:mo<((nn+1:Nat):Int)
    ·have d0:decide (mo<((nn+1:Nat):Int))=true:=decide_eq_true Ew;rw[d0];clear d0;go_wp2;go_ret;exact⟨Pl.aB (qJ.out Ew).symm,ai EU.out hX⟩
    ·have d0:decide (mo<((nn+1:Nat):Int))=false:=decide_eq_false Ew;rw[d0];clear d0;have jC:=uh (BC.out Ew);go_wp2;go_roundw
     case rel=>exact⟨k+1,_,_,by omega,by go_num,jC.out,HKM.out.ae hX,HMP.out X hX,HGA.out,ai EU.out hX⟩
     case measure=>simp[intOf];omega
theorem ph:∀ l:List UInt8,Op.bytesLess l l=false
 |[]=>rfl
 |a::x=>by unfold Op.bytesLess;rw[ph x];simp
theorem jN {a b:ByteArray} (h:Pl.eC a b=true):a=b:=il h
theorem pe (a:ByteArray):Pl.mA a a=false:=ph _
theorem iq (a b:ByteArray):bT a b<0↔Pl.mA a b=true:=by
 unfold bT;cases Pl.mA a b
 ·cases a.toList==b.toList<;>simp
 ·simp
theorem bE (a b:ByteArray):bT a b=0↔Pl.eC a b=true:=by
 unfold bT;cases h:Pl.eC a b
 ·have h':(a.toList==b.toList)=false:=h;rw[h'];cases Pl.mA a b<;>simp
 ·have:=jN h;subst this;rw[pe];simp
theorem dK:∀ A B:List ByteArray,cK A B<0↔Pl.cU A B=true
 |[],[]=>by unfold cK Pl.cU<;>simp
 |[],_::_=>by unfold cK Pl.cU<;>simp
 |_::_,[]=>by unfold cK Pl.cU<;>simp
 |a::x,b::y=>by
  unfold cK Pl.cU;cases h:Pl.eC a b
  ·have h0:¬ bT a b=0:=fun e=>by rw[(bE a b).1 e]at h;cases h
   rw[if_neg h0];simp only[Bool.false_eq_true,if_false];exact iq a b
  ·rw[if_pos ((bE a b).2 h)];simp only[if_true];exact dK x y
theorem mX (a b:Int):dm a b<0↔a<b:=by unfold dm;split<;>(try split)<;>simp_all
theorem cJ (a b:Int):dm a b=0↔a=b:=by unfold dm;split<;>(try split)<;>constructor<;>intro h<;>omega
theorem pM (x y:Pl.Bl):decide (et x y<0)=Pl.ahead x y:=by
 unfold et eF Pl.ahead;by_cases h:bT x.kind y.kind=0
 ·rw[if_pos h];have e:=(bE _ _).1 h;have e2:=jN e;rw[e,e2,pe,Bool.false_or,Bool.true_and];rw[Bool.eq_iff_iff,decide_eq_true_iff];exact iq _ _
 ·rw[if_neg h];have e:Pl.eC x.kind y.kind=false:=by
   cases q:Pl.eC x.kind y.kind
   ·rfl
   ·exact absurd ((bE _ _).2 q) h
  rw[e,Bool.false_and,Bool.or_false];rw[Bool.eq_iff_iff,decide_eq_true_iff];exact iq _ _
theorem pB (kind:ByteArray) (x y:Pl.Ln):decide (gZ (Pl.aj kind) x y<0)=Pl.aT kind x y:=by
 have hu:gZ (Pl.aj kind) x y=eF (dm (Pl.dk kind x.key) (Pl.dk kind y.key)) (cK x.ws y.ws):=rfl;rw[hu];unfold eF Pl.aT;by_cases h:dm (Pl.dk kind x.key) (Pl.dk kind y.key)=0
 ·rw[if_pos h];have e:=(cJ _ _).1 h;rw[e];have:decide (Pl.dk kind y.key<Pl.dk kind y.key)=false:=decide_eq_false (by omega);rw[this];simp only[Bool.false_or,BEq.rfl,Bool.true_and];rw[Bool.eq_iff_iff,decide_eq_true_iff];exact dK _ _
 ·rw[if_neg h];have e:(Pl.dk kind x.key==Pl.dk kind y.key)=false:=by
   rw[beq_eq_false_iff_ne];exact fun q=>h ((cJ _ _).2 q)
  rw[e,Bool.false_and,Bool.or_false];rw[Bool.eq_iff_iff,decide_eq_true_iff,decide_eq_true_iff];exact mX _ _
theorem pF (n:Nat) (f:Nat→Bool) (g:Nat→Nat→Bool):(List.range n).all (fun i=>f i&&(decide (i=0)||g (i - 1) i))=((List.range n).all f&&(List.range (n - 1)).all (fun i=>g i (i+1))):=by
 rw[Bool.eq_iff_iff];simp only[Bool.and_eq_true,List.all_eq_true,List.mem_range,Bool.or_eq_true,decide_eq_true_iff];constructor
 ·intro h;refine⟨fun i hi=>(h i hi).1,fun i hi=> ?_⟩;rcases(h (i+1) (by omega)).2 with e|e
  ·omega
  ·exact e
 ·rintro⟨h1,h2⟩ i hi;refine⟨h1 i hi, ?_⟩;cases i with
  |zero=>exact Or.inl rfl
  |succ i=>exact Or.inr (h2 i (by omega))
theorem E7 (m:Bool) (n:Nat):(!decide ((if m then (10:Int) else 1)<(n:Nat)))=Pl.eU m n:=by
 unfold Pl.eU;cases m
 ·rw[Bool.eq_iff_iff];simp;omega
 ·rw[Bool.eq_iff_iff];simp;omega
theorem AG (kind:ByteArray) (L:List Pl.Ln):gL (Pl.aj kind) L=Pl.bA kind L:=by
 unfold gL Pl.bA pH;have e1:Pl.cV kind L=fun i=>(Pl.fG (Pl.aj kind) L i)&&(decide (i=0)||Pl.aT kind (L.getD (i - 1) Pl.aQ) (L.getD i Pl.aQ)):=by
  funext i
  unfold Pl.cV Pl.fG;rw[E7];have a1:Pl.bU kind (L.getD i Pl.aQ).key (L.getD i Pl.aQ).ws=Pl.nS (Pl.aj kind) (L.getD i Pl.aQ).key (L.getD i Pl.aQ).ws:=rfl;have a2:Pl.fh kind (L.getD i Pl.aQ).key=Pl.nc (Pl.aj kind) (L.getD i Pl.aQ).key:=rfl;rw[a1,a2,Bool.and_assoc,Bool.and_assoc];congr 1;exact Bool.and_comm _ _
 rw[e1,pF L.length (Pl.fG (Pl.aj kind) L) (fun i j=>Pl.aT kind (L.getD i Pl.aQ) (L.getD j Pl.aQ))];congr 1;congr 1;funext i
 exact pB kind _ _
def mB (b:Pl.Bl):Bool:= !decide ((Pl.aj b.kind).length=0)&&Pl.cd b.name&&gL (Pl.aj b.kind) b.lines
theorem zV (s:List Pl.Bl):Pl.aM s=(decide (s.length≤60)&&(l8 s&&(List.range s.length).all fun i=>mB (s.getD i Pl.aG))):=by
 unfold Pl.aM;congr 1;have e1:Pl.cQ s=fun i=>mB (s.getD i Pl.aG)&&(decide (i=0)||Pl.ahead (s.getD (i - 1) Pl.aG) (s.getD i Pl.aG)):=by
  funext i
  unfold Pl.cQ mB;rw[AG]
 rw[e1,pF s.length (fun i=>mB (s.getD i Pl.aG)) (fun i j=>Pl.ahead (s.getD i Pl.aG) (s.getD j Pl.aG)),Bool.and_comm];congr 1;unfold l8;congr 1;funext i
 exact(pM _ _).symm
end Go.Proofs.Ytmgibmmpopoboaa
