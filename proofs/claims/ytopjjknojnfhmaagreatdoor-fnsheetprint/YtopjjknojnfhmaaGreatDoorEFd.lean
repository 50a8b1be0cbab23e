import Derived.Laws.IdiomStrings
import Derived.Lib.ItoaLen
import Derived.Deep.DeepCutAuto
import Derived.Test.YtopjjknojnfhmaaGreatDoorEWb
import Derived.Test.YtopjjknojnfhmaaGreatDoorEPn
import Derived.Test.YtopjjknojnfhmaaGreatDoorERu
namespace Go.Proofs.YtopjjknojnfhmaaGreatDoor
set_option maxRecDepth 8000
set_option maxHeartbeats 40000000
open Go.RowKit Go.Deep
theorem Tryz.qD:Tryz.prog.underlying 22=some (.slice 5):=by kernel_rfl
theorem ix (W:World) (B:Nat) (d:Nat) (hd:d<10) (z:Int) (hz:z=48+(d:Int)) (hc:W.cell? ⟨B,0,none⟩=some (.int .u8 z)):
  (convert 22 9 (.slice (some ⟨B,0,none⟩) 1 1)).run Tryz.prog W=.ok (.string ⟨[UInt8.ofNat (48+d)].toArray⟩) W:=by
 have e:(UInt8.ofNat (48+d)).toNat=48+d:=by rw[UInt8.toNat_ofNat'];omega
 refine run_convert_bytes_back (P:=Tryz.prog) W 22 9 5 ⟨B,0,none⟩ 1 [UInt8.ofNat (48+d)] Tryz.qD Tryz.underlying5 Tryz.underlying9 fun j hj=> ?_;obtain rfl:j=0:=by simpa using hj
 rw[show (Addr.add ⟨B,0,none⟩ 0)=⟨B,0,none⟩ from rfl,hc,hz];simp only[List.getElem_cons_zero,e];rfl
theorem wrap_small (z:Int) (h0: -9223372036854775808≤z) (h1:z≤9223372036854775807):IntKind.i64.wrap z=z:=IntWalk.i64_in z ⟨h0,h1⟩
theorem Hf (q:Nat) (h:q≤1000000000):(Lib.decDigits q).length≤21:=by
 have:=Lib.itoa_length_le (q:Int) (by omega) (by omega);rw[Lib.itoa_nonneg]at this;exact this
theorem C2 (a b:List UInt8):(⟨(a++b).toArray⟩:ByteArray)=⟨a.toArray⟩++⟨b.toArray⟩:=by
 apply ByteArray.ext;simp[ByteArray.data_append]
theorem D3 {a b:List UInt8} (h:a=b):Ending.returned (.string ⟨a.toArray⟩)=.returned (.string ⟨b.toArray⟩):=by rw[h]
theorem tq (n:Nat) (w:World) (h:n<10):
  Calls Tryz.prog 13 #[.int .i64 (n:Nat)] w fun e w'=>e=.returned (.string ⟨(Lib.decDigits n).toArray⟩)∧Bel w w':=by
 have HE:Hid (Lib.decDigits n=[UInt8.ofNat (48+n)]):=Lib.decDigits_one h;have Ie:=ix (w.alloc (.cells #[.int .u8 (48+(n:Int))] 5)) w.heap.size n h _ rfl (by simp);go_enter Tryz.func13,Tryz.ntmps13
 go_wp2;go_ret;exact⟨D3 (by rw[HE.out];simp),ae zR _⟩
theorem xr (n:Nat) (w:World) (h:¬ n<10) (hb:n≤1000000000) (ih:∀ W:World,Calls Tryz.prog 13 #[.int .i64 ((n / 10:Nat):Int)] W fun e w'=>e=.returned (.string ⟨(Lib.decDigits (n / 10)).toArray⟩)∧Bel W w'):
  Calls Tryz.prog 13 #[.int .i64 (n:Nat)] w fun e w'=>e=.returned (.string ⟨(Lib.decDigits n).toArray⟩)∧Bel w w':=by
 have HE:Hid (Lib.decDigits n=Lib.decDigits (n / 10)++[UInt8.ofNat (48+n % 10)]):=by show _=_;rw[Lib.decDigits,dif_neg h]
 have HI:Hid (∀ W:World,Calls Tryz.prog 13 #[.int .i64 ((n / 10:Nat):Int)] W fun e w'=>e=.returned (.string ⟨(Lib.decDigits (n / 10)).toArray⟩)∧Bel W w'):=ih;have SI:Hid (∀ (W:World) (B:Nat) (z:Int),z=48+((n % 10:Nat):Int)→W.cell? ⟨B,0,none⟩=some (.int .u8 z)→(convert 22 9 (.slice (some ⟨B,0,none⟩) 1 1)).run Tryz.prog W=.ok (.string ⟨[UInt8.ofNat (48+n % 10)].toArray⟩) W):=fun W B z hz hc=>ix W B (n % 10) (Nat.mod_lt _ (by decide)) z hz hc;obtain⟨q,hq⟩:∃ q,q=n / 10:=⟨_,rfl⟩
 obtain⟨m,hm⟩:∃ m,m=n % 10:=⟨_,rfl⟩
 rw[← hq]at HI HE;rw[← hm]at SI HE;have L3:m<10:=by omega
 have hqb:q≤1000000000:=by omega
 have e1:IntKind.i64.wrap ((n:Int) / 10)=(q:Int):=by rw[wrap_small _ (by omega) (by omega)];omega
 have e2:(n:Int).tmod 10=(m:Int):=by rw[Int.tmod_eq_emod_of_nonneg (by omega)];omega
 have e3:IntKind.i64.wrap (48+(m:Int))=48+m:=wrap_small _ (by omega) (by omega);have e4:IntKind.u8.wrap (48+(m:Int))=48+m:=rH _ (by omega) (by omega);clear ih hq hm;go_enter Tryz.func13,Tryz.ntmps13
 go_wp2_with fail
 have hlen:¬ (9223372036854775807<(Lib.decDigits q).length+1):=by have:=Hf q hqb;omega
 have Jr:Hid (∀ W w6:World,Bel W w6→(W.cell? ⟨w.heap.size,0,none⟩=some (.int .u8 (48+(m:Int)))∧w.heap.size<W.heap.size)→(convert 22 9 (.slice (some ⟨w.heap.size,0,none⟩) 1 1)).run Tryz.prog w6=.ok (.string ⟨[UInt8.ofNat (48+m)].toArray⟩) w6):=
  fun W w6 hb hc=>ix w6 w.heap.size m L3 _ rfl ((hb.cell (p:=⟨w.heap.size,0,none⟩) hc.2).trans hc.1)
 have hcA:=ix ((w.alloc (.cells #[.int .u8 (48+(m:Int))] 5)).drew) w.heap.size m L3 _ rfl (by simp);go_region_with (first|(go_at_call 13;refine(HI.out _).mono ?_;rintro e w6 ⟨rfl,BG⟩;have hc6:=ix (w6.alloc (.cells #[.int .u8 (48+(m:Int))] 5)) w6.heap.size m L3 _ rfl (by simp);have hc7:=Jr.out _ _ BG;try (simp at hc7)))
 all_goals
  go_wp2;go_ret;refine⟨?_, ?_⟩
  ·show Ending.returned (.string (⟨(Lib.decDigits q).toArray⟩++⟨#[48+UInt8.ofNat m]⟩))=_;rw[HE.out,C2];simp
  ·repeat(first|exact zR|exact ah (by repeat(first|exact zR|refine Below.drew ?_|refine ae ?_ _)) BG|refine Below.drew ?_|refine ae ?_ _)
theorem xe (n:Nat) (hb:n≤1000000000) (w:World):
  Calls Tryz.prog 13 #[.int .i64 (n:Nat)] w fun e w'=>e=.returned (.string ⟨(Lib.decDigits n).toArray⟩)∧Bel w w':=by
 induction n using Nat.strongRecOn generalizing w with
 |_ n ih=>
  by_cases h:n<10
  ·exact tq n w h
  ·exact xr n w h hb fun W=>ih (n / 10) (by omega) (by omega) W
theorem pZ (s:ByteArray) (w:World) (hs:s.size≤maxLen):
  Calls Tryz.prog 28 #[.string s] w fun e w'=>e=.returned (.bool (Pl.aT s))∧w=w':=by
 unfold maxLen at hs;by_cases gG:1≤s.size∧s.size≤20
 ·obtain⟨h1,h2⟩:=gG;have hb:(decide ((1:Int)≤(s.size:Int))&&decide ((s.size:Int)≤20))=true:=by simp;omega
  go_enter Tryz.func28,Tryz.ntmps28
  go_wp2_with (go_at_call 52;refine(jU _ _ _ _).mono ?_;rintro e w' ⟨rfl,rfl⟩)
  go_loop [3] (fun i=>∃ k:Nat,k≤s.size∧i=.int .i64 k∧(s.data.toList.take k).all Pl.bV=true) (fun i=>s.size - (intOf i).toNat)
  case atStart=>exact⟨0,zN,rfl,rfl⟩
  case round=>
   obtain⟨k,hk,rfl,bs⟩:=hrel;have HA:Hid ((s.data.toList.take k).all Pl.bV=true):=bs;clear bs;by_cases bd:k<s.size
   ·have HSN:Hid ((s.data.toList.take (k+1)).all Pl.bV=Pl.bV s[k]):=by show _=_;rw[Pl.iz _ _ _ bd,HA.out];rfl
    have PW:Hid (Pl.bV s[k]=false→Pl.aT s=false):=fun h=>by simp[Pl.aT,Pl.nameBytes,Pl.all_false _ s k bd h]
    obtain⟨b,gb⟩:∃ b,b=s[k]:=⟨_,rfl⟩
    have lL:s[k]=b:=gb.symm;clear gb;rw[lL]at HSN PW;go_wp2
    all_goals simp only[Bool.not_eq_eq_eq_not,Bool.not_true,Bool.not_false,beq_iff_eq,beq_eq_false_iff_ne,decide_eq_true_eq,decide_eq_false_iff_not]at*
    all_goals first
     |(have hn:Pl.bV b=false:=by rw[Bool.eq_false_iff];simp[Pl.bV];omega
       go_ret;exact⟨Pl.aq (PW.out hn).symm,rfl⟩)
     |(have hn:Pl.bV b=true:=by simp[Pl.bV];omega
       go_round
       case rel=>exact⟨k+1,by omega,by go_num,by rw[HSN.out,hn]⟩
       case measure=>simp[intOf];omega)
   ·have HF:Hid (Pl.aT s=true):=by
     show Pl.aT s=true;have:=Pl.mh Pl.bV s k (by omega);simp only[Pl.aT,Pl.nameBytes,← this,HA.out];simp;omega
    go_wp2;go_ret;exact⟨Pl.aq HF.out.symm,rfl⟩
 ·have HF:Hid (Pl.aT s=false):=by
   show Pl.aT s=false;have:(decide (1≤s.size)&&decide (s.size≤20))=false:=by
    rw[Bool.eq_false_iff];simp;omega
   simp[Pl.aT,this]
  have hb:(decide ((1:Int)≤(s.size:Int))&&decide ((s.size:Int)≤20))=false:=by
   rw[Bool.eq_false_iff];simp;omega
  clear gG;go_enter Tryz.func28,Tryz.ntmps28
  go_wp2_with (go_at_call 52;refine(jU _ _ _ _).mono ?_;rintro e w' ⟨rfl,rfl⟩)
  go_ret;exact⟨Pl.aq HF.out.symm,rfl⟩
theorem iQ (s:ByteArray) (w:World) (hs:s.size≤maxLen):
  Calls Tryz.prog 97 #[.string s] w fun e w'=>e=.returned (.bool (Pl.cV s))∧Bel w w':=by
 unfold maxLen at hs;by_cases gG:1≤s.size∧s.size≤7
 ·obtain⟨h1,h7⟩:=gG;have hb:(decide ((1:Int)≤(s.size:Int))&&decide ((s.size:Int)≤7))=true:=by simp;omega
  go_enter Tryz.func97,Tryz.ntmps97
  go_wp2_with (go_at_call 52;refine(jU _ _ _ _).mono ?_;rintro e w' ⟨rfl,rfl⟩)
  go_loop [3,4] (fun n i=>∃ k:Nat,k≤s.size∧i=.int .i64 k∧n=.int .i64 (Pl.aX (s.data.toList.take k))∧(s.data.toList.take k).all Pl.digit=true) (fun _ i=>s.size - (intOf i).toNat)
  case atStart=>exact⟨0,zN,rfl,rfl,rfl⟩
  case round=>
   obtain⟨k,hk,rfl,rfl,bs⟩:=hrel;have oI:=Pl.ly s k hk (by omega) bs;obtain⟨b1,b2⟩:=oI;have HA:Hid ((s.data.toList.take k).all Pl.digit=true):=bs;clear bs;by_cases bd:k<s.size
   ·have HS:Hid (Pl.aX (s.data.toList.take (k+1))=Pl.aX (s.data.toList.take k)*10+((s[k].toNat:Int) - 48)):=Pl.jq s k bd;by_cases hd:48≤(s[k].toNat:Int)∧(s[k].toNat:Int)≤57
    ·obtain⟨d1,d2⟩:=hd;have d3:¬ (s[k].toNat:Int)<48:=by omega
     have d4:¬ (57:Int)<(s[k].toNat:Int):=by omega
     go_wp2;go_round
     case rel=>exact⟨k+1,by omega,by go_num,by first|(rw[HS.out];go_num)|rw[HS.out],by rw[Pl.iz _ _ _ bd,HA.out];simp[Pl.digit];omega⟩
     case measure=>simp[intOf];omega
    ·have HF:Hid (Pl.cV s=false):=by
      show Pl.cV s=false;have:s.data.toList.all Pl.digit=false:=Pl.all_false _ s k bd (by rw[Bool.eq_false_iff];simp[Pl.digit];omega);simp[Pl.cV,Pl.dF,this]
     by_cases Hw:(s[k].toNat:Int)<48
     ·go_wp2;go_ret;exact⟨Pl.aq HF.out.symm,zR⟩
     ·have NR:(57:Int)<(s[k].toNat:Int):=by omega
      go_wp2;go_ret;exact⟨Pl.aq HF.out.symm,zR⟩
   ·have e:s.data.toList.take k=s.data.toList:=List.take_of_length_le (by simp;omega);rw[e]at HA b1 b2;rw[e];have Qx:=uh (Pl.J9 s h1 HA.out);have kf:Hid (Pl.cV s=((!Pl.lead s)&&decide (Pl.aX s.data.toList≤1000000))):=by
     show _=_;simp[Pl.cV,Pl.dF,HA.out,h1,h7]
    obtain⟨v,hv⟩:∃ v,v=(Pl.aX s.data.toList).toNat:=⟨_,rfl⟩
    have OS:Pl.aX s.data.toList=(v:Int):=by omega
    rw[OS]at kf Qx;rw[OS];have iI:v≤1000000000:=by omega
    have HC:=uh (fun W=>xe v iI W);obtain⟨L,hL⟩:∃ L,L=Pl.lead s:=⟨_,rfl⟩
    rw[← hL]at kf Qx;have hT:((⟨(Lib.decDigits v).toArray⟩:ByteArray).toList==s.toList)= !L:=by
     rw[Pl.tl,Pl.tl];simpa using Qx.out
    obtain⟨D,hD⟩:∃ D:ByteArray,D=⟨(Lib.decDigits v).toArray⟩:=⟨_,rfl⟩
    rw[← hD]at HC hT;clear hD hL OS hv e b1 b2 HA Qx;cases L
    ·have Qq:(D.toList==s.toList)=true:=hT;clear hT;go_wp2_with (go_at_call 13;refine(HC.out _).mono ?_;rintro e w' ⟨rfl,eY⟩)
     go_ret;exact⟨Pl.aq (by rw[kf.out];simp),eY⟩
    ·have Qq:(D.toList==s.toList)=false:=hT;clear hT;have HF:Hid (Pl.cV s=false):=by show _=_;rw[kf.out];rfl
     go_wp2_with (go_at_call 13;refine(HC.out _).mono ?_;rintro e w' ⟨rfl,eY⟩)
     go_ret;exact⟨Pl.aq HF.out.symm,eY⟩
 ·have HF:Hid (Pl.cV s=false):=by
   show Pl.cV s=false;have:(decide (1≤s.size)&&decide (s.size≤7))=false:=by
    rw[Bool.eq_false_iff];simp;omega
   simp[Pl.cV,Pl.dF,this]
  have hb:(decide ((1:Int)≤(s.size:Int))&&decide ((s.size:Int)≤7))=false:=by
   rw[Bool.eq_false_iff];simp;omega
  clear gG;go_enter Tryz.func97,Tryz.ntmps97
  go_wp2_with (go_at_call 52;refine(jU _ _ _ _).mono ?_;rintro e w' ⟨rfl,rfl⟩)
  go_ret;exact⟨Pl.aq HF.out.symm,zR⟩
theorem JP (s:ByteArray) (h:0<s.size):(s.data.toList.headD 0==45)=((s[0].toNat:Int)==45):=by
 rw[Pl.oh s h,Pl.pG];rfl
theorem Ar (s:ByteArray) (w:World) (hs:s.size≤maxLen):
  Calls Tryz.prog 75 #[.int .i64 2,.string s] w fun e w'=>e=.returned (.bool (Pl.dV 2 s))∧Bel w w':=by
 have HF:Hid (Pl.dV 2 s=Pl.pL s):=by show _=_;unfold Pl.dV;rw[if_neg (by decide),if_pos rfl]
 have H5:=uh (fun W=>iQ s W hs);have MU:(s.extract 1 s.size).size≤maxLen:=by rw[ByteArray.size_extract];omega
 have JG:=uh (fun W=>iQ (s.extract 1 s.size) W MU);have Jb:Hid (Pl.pL s=(Pl.cV s||(decide (1<s.size)&&(s.data.toList.headD 0==45)&& !((s.extract 1 s.size).toList==[48])&&Pl.cV (s.extract 1 s.size)))):=rfl;unfold maxLen at hs;obtain⟨n1,jn⟩:∃ n,n=Pl.cV s:=⟨_,rfl⟩
 obtain⟨n2,tZ⟩:∃ n,n=Pl.cV (s.extract 1 s.size):=⟨_,rfl⟩
 rw[← jn]at H5 Jb;rw[← tZ]at JG Jb;clear jn tZ MU;cases n1
 rotate_left
 ·go_enter Tryz.func75,Tryz.ntmps75
  go_wp2_with (go_at_call 97;refine(H5.out _).mono ?_;rintro e w' ⟨rfl,hb⟩)
  go_ret;exact⟨Pl.aq (by rw[HF.out,Jb.out];rfl),hb⟩
 by_cases h1:1<s.size
 rotate_left
 ·go_enter Tryz.func75,Tryz.ntmps75
  go_wp2_with (go_at_call 97;refine(H5.out _).mono ?_;rintro e w' ⟨rfl,hb⟩)
  go_ret;exact⟨Pl.aq (by rw[HF.out,Jb.out];simp[h1]),hb⟩
 have HH:=uh (JP s (by omega));obtain⟨X,hX⟩:∃ X,X=s.extract 1 s.size:=⟨_,rfl⟩
 have hXx:s.extract 1 s.size=X:=hX.symm;rw[hXx]at JG Jb;clear hX;cases Lm:((s[0].toNat:Int)==45)
 ·go_enter Tryz.func75,Tryz.ntmps75
  go_wp2_with (go_at_call 97;refine(H5.out _).mono ?_;rintro e w' ⟨rfl,hb⟩)
  go_ret;exact⟨Pl.aq (by rw[HF.out,Jb.out,HH.out,Lm];simp),hb⟩
 cases h0:(X.toList==[48])
 rotate_left
 ·have h0':(X.toList !=[48])=false:=by rw[bne,h0];rfl
  go_enter Tryz.func75,Tryz.ntmps75
  go_wp2_with (go_at_call 97;refine(H5.out _).mono ?_;rintro e w' ⟨rfl,hb⟩)
  go_ret;exact⟨Pl.aq (by rw[HF.out,Jb.out,h0];simp),hb⟩
 have h0':(X.toList !=[48])=true:=by rw[bne,h0];rfl
 go_enter Tryz.func75,Tryz.ntmps75
 go_wp2_with fail
 refine(H5.out _).mono ?_;rintro e w1 ⟨rfl,bJ⟩;go_wp2_with fail
 refine(JG.out _).mono ?_;rintro e w2 ⟨rfl,eD⟩;go_wp2;go_ret;exact⟨Pl.aq (by rw[HF.out,Jb.out,HH.out,Lm,h0];simp[h1]),ah bJ eD⟩
theorem Dv (t:Int) (s:ByteArray) (w:World) (hs:s.size≤maxLen):
  Calls Tryz.prog 75 #[.int .i64 t,.string s] w fun e w'=>e=.returned (.bool (Pl.dV t s))∧Bel w w':=by
 by_cases t2:t=2
 ·subst t2;exact Ar s w hs
 have e2:(t==2)=false:=by simpa using t2
 by_cases t1:t=1
 ·subst t1;have HF:Hid (Pl.cV s=Pl.dV 1 s):=by show _=_;unfold Pl.dV;rw[if_pos rfl]
  clear e2;go_enter Tryz.func75,Tryz.ntmps75
  go_wp2_with (go_at_call 97;refine(iQ _ _ hs).mono ?_;rintro e w' ⟨rfl,hb⟩)
  go_ret;exact⟨Pl.aq HF.out,hb⟩
 have e1:(t==1)=false:=by simpa using t1
 by_cases t3:t=3
 ·subst t3;have HF:Hid (Pl.aT s=Pl.dV 3 s):=by show _=_;unfold Pl.dV;rw[if_neg (by decide),if_neg (by decide),if_pos rfl]
  clear e1 e2;go_enter Tryz.func75,Tryz.ntmps75
  go_wp2_with (go_at_call 28;refine(pZ _ _ hs).mono ?_;rintro e w' ⟨rfl,rfl⟩)
  go_ret;exact⟨Pl.aq HF.out,zR⟩
 have e3:(t==3)=false:=by simpa using t3
 by_cases t5:t=5
 ·subst t5;have HF:Hid (((s.toList==[121,101,115])||(s.toList==[110,111]))=Pl.dV 5 s):=by show _=_;unfold Pl.dV;rw[if_neg (by decide),if_neg (by decide),if_neg (by decide),if_pos rfl]
  clear e1 e2 e3;cases y:(s.toList==[121,101,115])
  all_goals
   rw[y]at HF;go_enter Tryz.func75,Tryz.ntmps75
   go_wp2;go_ret;exact⟨Pl.aq (by first|exact HF.out|(rw[← HF.out];simp)),zR⟩
 have e5:(t==5)=false:=by simpa using t5
 by_cases t6:t=6
 ·subst t6;have HF:Hid (((s.toList==[110,111,110,101])||(s.toList==[98,101,114,116,104])||(s.toList==[122,111,110,101]))=Pl.dV 6 s):=by show _=_;unfold Pl.dV;rw[if_neg (by decide),if_neg (by decide),if_neg (by decide),if_neg (by decide),if_pos rfl]
  clear e1 e2 e3 e5;cases y1:(s.toList==[110,111,110,101])
  all_goals cases y2:(s.toList==[98,101,114,116,104])
  all_goals
   rw[y1,y2]at HF;go_enter Tryz.func75,Tryz.ntmps75
   go_wp2;go_ret;exact⟨Pl.aq (by first|exact HF.out|(rw[← HF.out];simp)),zR⟩
 have e6:(t==6)=false:=by simpa using t6
 have HF:Hid (decide (s.size≤200)=Pl.dV t s):=by show _=_;unfold Pl.dV;rw[if_neg t1,if_neg t2,if_neg t3,if_neg t5,if_neg t6]
 unfold maxLen at hs;clear t1 t2 t3 t5 t6;go_enter Tryz.func75,Tryz.ntmps75
 go_wp2;go_ret;exact⟨Pl.aq (by rw[← HF.out,Bool.eq_iff_iff];simp<;>omega),zR⟩
theorem tv (r:Pl.Ru):(ruD r).length=4:=rfl
theorem jV {W:World} {l:List Pl.Ru} {v:Value} (h:Raw W [.row 96 aF] [cQ l] [v]) {k:Nat} (hk:k<l.length):∃ p o c a1 c1 v3,v=.slice (some ⟨p,o,none⟩) l.length c∧p<W.heap.size∧W.rangeAt p (o+k*4) [.string (l.getD k Pl.bq).key,.slice a1 (l.getD k Pl.bq).args.length c1,.bool (l.getD k Pl.bq).many,v3]∧Raw W [.row 3 [.i]] [.row (l.getD k Pl.bq).args.length ((l.getD k Pl.bq).args.map .i)] [.slice a1 (l.getD k Pl.bq).args.length c1]∧Raw W [.row 9 [.s]] [.row (l.getD k Pl.bq).dflt.length (txD (l.getD k Pl.bq).dflt)] [v3]:=by
 rcases h.slice with⟨e0,_⟩|⟨p,o,c,hv,hp,_,vs,hr,hR⟩
 ·omega
 ·obtain⟨ve,hE,hg⟩:=hR.el hk hr;have e:el aF.length k (l.flatMap ruD)=ruD (l.getD k Pl.bq):=j8 Pl.bq ruD 4 tv l k hk;rw[e]at hE;obtain⟨v1,v3,hc,r1,r3⟩:=sx hE;subst hc;obtain⟨a1,c1,h1⟩:=r1.bm;subst h1;exact⟨p,o,c,a1,c1,v3,hv,hp,hg,r1,r3⟩
theorem jz (kind key:ByteArray) (w:World):
  Calls Tryz.prog 54 #[.string kind,.string key] w fun e w'=>e=.returned (.int .i64 (Pl.ixI (Pl.bC (Pl.ai kind) key)))∧Bel w w':=by
 have HC:=uh (fun W=>dZ kind W);obtain⟨l,hl⟩:∃ l,l=Pl.ai kind:=⟨_,rfl⟩
 have zC:l.length≤100:=by
  rw[hl];unfold Pl.ai;split
  ·decide
  ·split
   ·decide
   ·split<;>decide
 rw[← hl]at HC ⊢;clear hl;go_enter Tryz.func54,Tryz.ntmps54
 go_wp2_with fail
 refine(HC.out _).mono ?_;rintro e w1 ⟨v,F,rfl,hr,nd,lo,hb⟩;have HR:=uh hr.raw;have HB:=uh hb;obtain⟨va,vc,hv⟩:=hr.raw.bm;subst hv;clear hr nd lo hb HC;go_wp2;go_loop [6] (fun i=>∃ k:Nat,k≤l.length∧i=.int .i64 k∧Pl.bC l key=Pl.dU key (l.drop k) k) (fun i=>l.length - (intOf i).toNat)
 case atStart=>exact⟨0,zN,rfl,rfl⟩
 case round=>
  obtain⟨k,hk,rfl,hI⟩:=hrel;have HI:=uh hI;clear hI;by_cases bd:k<l.length
  ·obtain⟨p,o,c,a1,c1,v3,hv,hp,hg,_,_⟩:=jV HR.out bd;injection hv with e1 _ e3
   subst e1;subst e3;have y0:w1.cell? ⟨p,o+k*4,none⟩=some (.string (l.getD k Pl.bq).key):=aE hg 0 _ rfl;have ec:(0:Int)≤(k:Int):=by omega
   have dP:(k:Int)<(l.length:Int):=by omega
   have HM:=uh (fun h=>Pl.rY bd HI.out h);have HH:=uh (fun h=>Pl.uQ bd HI.out h);obtain⟨x,hx⟩:∃ x,x=(l.getD k Pl.bq).key:=⟨_,rfl⟩
   rw[← hx]at y0 HM HH;clear hx hg;cases hq:(x.toList==key.toList)
   ·have HX:=uh (HM.out hq);go_wp2;go_round
    case rel=>exact⟨k+1,by omega,by go_num,HX.out⟩
    case measure=>simp[intOf];omega
   ·have HX:Hid ((k:Int)=Pl.ixI (Pl.bC l key)):=by show _=_;rw[HH.out hq];rfl
    go_wp2;go_ret;exact⟨Pl.cU HX.out,HB.out⟩
  ·obtain rfl:k=l.length:=by omega
   have HX:Hid (-1=Pl.ixI (Pl.bC l key)):=by show _=_;rw[Pl.vj HI.out];rfl
   go_wp2;go_ret;exact⟨Pl.cU HX.out,HB.out⟩
def VFi (va vb:Value) (p1 o1 p2 o2 k:Nat) (z:Int) (x:ByteArray) (b:Bool) (jj:Nat) (u:Value) (_:World):Prop:=match jj with
 |0=>u=va
 |1|5=>u=.int .i64 (k:Int)
 |2=>u=.pointer (some ⟨p1,o1+k,none⟩)
 |3=>u=.int .i64 z
 |4=>u=vb
 |6=>u=.pointer (some ⟨p2,o2+k,none⟩)
 |7=>u=.string x
 |8=>u=.bool b
 |9=>u=.bool (!b)
 |_=>True
theorem CG (va vb:Value) (p1 o1 p2 o2 k:Nat) (z:Int) (x:ByteArray) (b:Bool):∀ j u W W',Bel W W'→VFi va vb p1 o1 p2 o2 k z x b j u W→VFi va vb p1 o1 p2 o2 k z x b j u W':=by
 intro j u W W' hb h;match j with
 |0|1|2|3|4|5|6|7|8|9=>exact h
 |n+10=>exact trivial
theorem xD (kind key:ByteArray) (ws:List ByteArray) (wv:Value) (w:World) (hw:Raw w [.row 9 [.s]] [.row ws.length (txD ws)] [wv]) (hs:∀ x∈ws,x.size≤maxLen):
  Calls Tryz.prog 53 #[.string kind,.string key,wv] w fun e w'=>e=.returned (.bool (Pl.bh kind key ws))∧Bel w w':=by
 have HW:=uh hw;have qa:=uh hs;obtain⟨wa2,NT,L8⟩:=hw.bm;subst L8;have r6:=uh (fun W=>jz kind key W);have HC:=uh (fun W=>dZ kind W);have HF:Hid (Pl.bh kind key ws=match Pl.bC (Pl.ai kind) key with
   |none=>false
   |some j=>Pl.gP ((Pl.ai kind).getD j Pl.bq).args ws):=rfl
 obtain⟨l,hl⟩:∃ l,l=Pl.ai kind:=⟨_,rfl⟩
 rw[← hl]at HC r6 HF;clear hl hw hs;cases lL:Pl.bC l key with
 |none=>
  rw[lL]at r6 HF;have hm:Pl.ixI none= -1:=rfl;rw[hm]at r6;clear hm;go_enter Tryz.func53,Tryz.ntmps53
  go_wp2_with (go_at_call 54;refine(r6.out _).mono ?_;rintro e w1 ⟨rfl,hb⟩)
  go_ret;exact⟨Pl.aq HF.out.symm,hb⟩
 |some j=>
  have hj:=Pl.iZ lL;rw[lL]at r6 HF;have hm:Pl.ixI (some j)=(j:Int):=rfl;rw[hm]at r6;clear hm lL;have Fs:¬ (j:Int)<0:=by omega
  have BB:(0:Int)≤(j:Int):=by omega
  have lJ:(j:Int)<(l.length:Int):=by omega
  go_enter Tryz.func53,Tryz.ntmps53
  go_wp2_with fail
  refine(r6.out _).mono ?_;rintro e w1 ⟨rfl,bJ⟩;go_wp2_with fail
  refine(HC.out _).mono ?_;rintro e w2 ⟨v,F,rfl,hr,nd,lo,eD⟩;obtain⟨p,o,c,a1,c1,v3,hv,hp,hg,hA,_⟩:=jV hr.raw hj;subst hv;have y1:w2.cell? ⟨p,o+j*4+1,none⟩=some (.slice a1 (l.getD j Pl.bq).args.length c1):=aE hg 1 _ rfl;have HA:=uh hA;have HB:Hid (Bel w w2):=ah bJ eD;obtain⟨ag,has⟩:∃ ag,ag=(l.getD j Pl.bq).args:=⟨_,rfl⟩
  have zF:Hid (Pl.bh kind key ws=Pl.gP ag ws):=by show _=_;rw[HF.out,has]
  rw[← has]at y1 HA;clear has hr nd lo bJ eD hg hA HC r6 HF;by_cases hlen:ag.length=ws.length
  rotate_left
  ·have du:((ag.length:Int) !=(ws.length:Int))=true:=by simp;omega
   have HX:Hid (Pl.bh kind key ws=false):=by show _=_;rw[zF.out,Pl.gP];simp[hlen]
   clear hlen;go_wp2;go_ret;exact⟨Pl.aq HX.out.symm,HB.out⟩
  have HX:Hid (Pl.bh kind key ws=Pl.eV ag ws):=by show _=_;rw[zF.out,Pl.gP];simp[hlen]
  rw[hlen]at y1 HA;obtain⟨n,hn⟩:∃ n,n=ws.length:=⟨_,rfl⟩
  have wS:Hid (Raw w2 [.row 9 [.s]] [.row n (txD ws)] [.slice wa2 n NT]):=by show Raw _ _ _ _;rw[hn];exact HW.out.later HB.out
  rw[← hn]at y1 HA hlen ⊢;have je:Hid (ag.length=n∧ws.length=n):=⟨hlen,hn.symm⟩
  have du:((n:Int) !=(n:Int))=false:=by simp
  clear hn hlen zF HW;go_wp2;go_loopw [9] (fun i wr=>∃ k:Nat,k≤n∧i=.int .i64 k∧Bel w2 wr∧Pl.eV ag ws=Pl.eV (ag.drop k) (ws.drop k)) (fun i _=>n - (intOf i).toNat)
  case atStart=>exact⟨0,zN,rfl,zR,rfl⟩
  case round=>
   obtain⟨k,hk,rfl,Lb,hI⟩:=hrel;have K7:=uh Lb;have HI:=uh hI;clear Lb hI y1;by_cases bd:k<n
   rotate_left
   ·obtain rfl:k=n:=by omega
    have HE:Hid (Pl.bh kind key ws=true):=by
     show _=_;rw[HX.out,HI.out,List.drop_of_length_le (by have:=je.out.1;omega),Pl.eV];intro _ _ _ _ h;cases h
    go_wp2;go_ret;exact⟨Pl.aq HE.out.symm,ah HB.out K7.out⟩
   have HS:=uh (@Pl.ui ag ws k (by have:=je.out.1;omega) (by have:=je.out.2;omega));obtain⟨z,hz⟩:∃ z,z=ag.getD k 0:=⟨_,rfl⟩
   obtain⟨x,hx⟩:∃ x,x=ws.getD k ⟨#[]⟩:=⟨_,rfl⟩
   have MU:x.size≤maxLen:=by
    have tE:k<ws.length:=by have:=je.out.2;omega
    have e:ws.getD k ⟨#[]⟩=ws[k]:=by simp[tE]
    rw[hx,e];exact qa.out _ (List.getElem_mem tE)
   have BP:=uh (fun W=>Dv z x W MU);rcases(HA.out.later K7.out).slice with⟨e0,_⟩|⟨p1,o1,R6,fy,sq,_,vs1,oM,mL⟩
   ·omega
   rcases(wS.out.later K7.out).slice with⟨e0,_⟩|⟨p2,o2,MO,iI,wQ,fK,vs2,mF,eR⟩
   ·omega
   have MD:=fK.1;unfold maxLen at MD;clear fK;injection fy with g1 _ g3
   injection iI with k1 _ k3
   subst g1;subst g3;subst k1;subst k3;obtain⟨ve1,N8,fo⟩:=mL.el bd oM;obtain⟨ve2,LG,ny⟩:=eR.el bd mF;have E5:el 1 k (ag.map Dt.i)=[.i z]:=by rw[hz];exact gO 0 Dt.i ag k (by have:=je.out.1;omega)
   have EH:el 1 k (txD ws)=[.s x]:=by rw[hx];exact gO ⟨#[]⟩ Dt.s ws k (by have:=je.out.2;omega)
   have ET:Raw wr [.i] [.i z] ve1:=by rw[← E5];exact N8
   have Fj:Raw wr [.s] [.s x] ve2:=by rw[← EH];exact LG
   obtain rfl:=Cv ET;obtain rfl:=zj Fj;have y1:wr.cell? ⟨p1,o1+k,none⟩=some (.int .i64 z):=by have:=aE fo 0 _ rfl;simpa using this
   have y2:wr.cell? ⟨p2,o2+k,none⟩=some (.string x):=by have:=aE ny 0 _ rfl;simpa using this
   have HK:Hid (wr.cell? ⟨p1,o1+k,none⟩=some (.int .i64 z)∧wr.cell? ⟨p2,o2+k,none⟩=some (.string x)∧p1<wr.heap.size∧p2<wr.heap.size):=⟨y1,y2,sq,wQ⟩
   rw[← hz,← hx]at HS;obtain⟨b,ot⟩:∃ b,b=Pl.dV z x:=⟨_,rfl⟩
   rw[← ot]at HS;have HC:Hid (∀ W,Calls Tryz.prog 75 #[.int .i64 z,.string x] W fun e w'=>e=.returned (.bool b)∧Bel W w'):=by rw[ot];exact BP.out
   have ec:(0:Int)≤(k:Int):=by omega
   have dP:(k:Int)<(n:Int):=by omega
   clear mL eR oM mF N8 LG ET Fj E5 EH fo ny hz hx ot BP y1 y2 sq wQ MU;go_upto_region 10 with fail
   refine RY.cA wr zR (VFi (.slice (some ⟨p1,o1,none⟩) n c1) (.slice (some ⟨p2,o2,none⟩) n NT) p1 o1 p2 o2 k z x b) (CG _ _ _ _ _ _ _ _ _ _) (by kernel_rfl) (by kernel_rfl) (by kernel_rfl) (by kernel_rfl) ?_ ?_
   ·intro i o' ho a X hX hk hd;have ya:X.cell? ⟨p1,o1+k,none⟩=some (.int .i64 z):=(hX.cell (p:=⟨p1,o1+k,none⟩) HK.out.2.2.1).trans HK.out.1;have yb:X.cell? ⟨p2,o2+k,none⟩=some (.string x):=(hX.cell (p:=⟨p2,o2+k,none⟩) HK.out.2.2.2).trans HK.out.2.1;match i,ho with
    |0,rfl=>
     exact RY.p (.slice (some ⟨p1,o1,none⟩) n c1) (by simp[execOp,go_sem,RY.K hk 8 (.slice (some ⟨p1,o1,none⟩) n c1)])
    |1,rfl|5,rfl=>
     exact RY.p (.int .i64 (k:Int)) (by simp[execOp,go_sem,RY.K hk 9 (.int .i64 (k:Int))])
    |2,rfl=>
     exact RY.p (.pointer (some ⟨p1,o1+k,none⟩)) (by simp[execOp,go_sem,RY.E hd 0 32,RY.E hd 1 33,ec,dP])
    |3,rfl=>
     exact RY.p (.int .i64 z) (by simp[execOp,go_sem,RY.E hd 2 34,ya])
    |4,rfl=>
     exact RY.p (.slice (some ⟨p2,o2,none⟩) n NT) (by simp[execOp,go_sem,RY.K hk 2 (.slice (some ⟨p2,o2,none⟩) n NT)])
    |6,rfl=>
     exact RY.p (.pointer (some ⟨p2,o2+k,none⟩)) (by simp[execOp,go_sem,RY.E hd 4 36,RY.E hd 5 37,ec,dP])
    |7,rfl=>
     exact RY.p (.string x) (by simp[execOp,go_sem,RY.E hd 6 38,yb])
    |8,rfl=>
     have e35:=RY.E hd 3 35;have e39:=RY.E hd 7 39;refine Or.inr ⟨75,#[.int .i64 z,.string x],by simp[go_sem,e35,e39],(HC.out X).mono ?_⟩;rintro e W' ⟨rfl,hb⟩;exact⟨_,rfl,hb,rfl⟩
    |9,rfl=>
     exact RY.p (.bool (!b)) (by simp[execOp,go_sem,RY.E hd 8 40])
    |n+10,ho=>simp at ho
   intro X vs hX bg;have q41:vs 41=_:=bg 9 _ 41 rfl rfl;simp only[RY.aC,Act.put,List.setIfInBounds_toArray,List.set_cons_zero,List.set_cons_succ];rw[q41];generalize vs 32=qw,vs 33=qM,vs 34=qX,vs 35=lN,vs 36=lI,vs 37=lR,vs 38=nu,vs 39=nS,vs 40=s40;clear bg q41;replace K7:=uh (ah K7.out hX)
   clear hX HK;cases b
   ·have HE:Hid (Pl.bh kind key ws=false):=by show _=_;rw[HX.out,HI.out,HS.out];rfl
    go_wp2;go_ret;exact⟨Pl.aq HE.out.symm,ah HB.out K7.out⟩
   ·have HN:Hid (Pl.eV ag ws=Pl.eV (ag.drop (k+1)) (ws.drop (k+1))):=by show _=_;rw[HI.out,HS.out];rfl
    go_wp2;go_roundw
    case rel=>exact⟨k+1,by omega,by go_num,K7.out,HN.out⟩
    case measure=>simp[intOf];omega
end Go.Proofs.YtopjjknojnfhmaaGreatDoor
