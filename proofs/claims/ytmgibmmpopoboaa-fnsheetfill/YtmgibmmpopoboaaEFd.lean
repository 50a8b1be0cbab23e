import Derived.Laws.IdiomStrings
import Derived.Lib.ItoaLen
import Derived.Deep.DeepCutAuto
import Derived.Test.YtmgibmmpopoboaaEPn
import Derived.Test.YtmgibmmpopoboaaERu
namespace Go.Proofs.Ytmgibmmpopoboaa
open Go.RowKit Go.Deep
theorem wF (z:Int) (h0:0≤z) (h1:z≤255):IntKind.u8.wrap z=z:=by
 simp[IntKind.wrap,IntKind.bits,IntKind.signed];omega
set_option maxHeartbeats 40000000
set_option maxRecDepth 8000
theorem Try.oK:Try.prog.underlying 22=some (.slice 5):=by kernel_rfl
theorem gT (W:World) (B:Nat) (d:Nat) (hd:d<10) (z:Int) (hz:z=48+(d:Int)) (hc:W.cell? ⟨B,0,none⟩=some (.int .u8 z)):
  (convert 22 9 (.slice (some ⟨B,0,none⟩) 1 1)).run Try.prog W=.ok (.string ⟨[UInt8.ofNat (48+d)].toArray⟩) W:=by
 have e:(UInt8.ofNat (48+d)).toNat=48+d:=by rw[UInt8.toNat_ofNat'];omega
 refine run_convert_bytes_back (P:=Try.prog) W 22 9 5 ⟨B,0,none⟩ 1 [UInt8.ofNat (48+d)] Try.oK Try.underlying5 Try.underlying9 fun j hj=> ?_;obtain rfl:j=0:=by simpa using hj
 rw[show (Addr.add ⟨B,0,none⟩ 0)=⟨B,0,none⟩ from rfl,hc,hz];simp only[List.getElem_cons_zero,e];rfl
theorem wrap_small (z:Int) (h0: -9223372036854775808≤z) (h1:z≤9223372036854775807):IntKind.i64.wrap z=z:=IntWalk.i64_in z ⟨h0,h1⟩
theorem Cs (q:Nat) (h:q≤1000000000):(Lib.decDigits q).length≤21:=by
 have:=Lib.itoa_length_le (q:Int) (by omega) (by omega);rw[Lib.itoa_nonneg]at this;exact this
theorem zG (a b:List UInt8):(⟨(a++b).toArray⟩:ByteArray)=⟨a.toArray⟩++⟨b.toArray⟩:=by
 apply ByteArray.ext;simp[ByteArray.data_append]
theorem zP {a b:List UInt8} (h:a=b):Ending.returned (.string ⟨a.toArray⟩)=.returned (.string ⟨b.toArray⟩):=by rw[h]
theorem qn (n:Nat) (w:World) (h:n<10):
  Calls Try.prog 71 #[.int .i64 (n:Nat)] w fun e w'=>e=.returned (.string ⟨(Lib.decDigits n).toArray⟩)∧Bel w w':=by
 have HE:Hid (Lib.decDigits n=[UInt8.ofNat (48+n)]):=Lib.decDigits_one h;have hcv:=gT (w.alloc (.cells #[.int .u8 (48+(n:Int))] 5)) w.heap.size n h _ rfl (by simp);go_enter Try.func71,Try.ntmps71
 go_wp2;go_ret;exact⟨zP (by rw[HE.out];simp),ah zR _⟩
theorem uw (n:Nat) (w:World) (h:¬ n<10) (hb:n≤1000000000) (ih:∀ W:World,Calls Try.prog 71 #[.int .i64 ((n / 10:Nat):Int)] W fun e w'=>e=.returned (.string ⟨(Lib.decDigits (n / 10)).toArray⟩)∧Bel W w'):
  Calls Try.prog 71 #[.int .i64 (n:Nat)] w fun e w'=>e=.returned (.string ⟨(Lib.decDigits n).toArray⟩)∧Bel w w':=by
 have HE:Hid (Lib.decDigits n=Lib.decDigits (n / 10)++[UInt8.ofNat (48+n % 10)]):=by show _=_;rw[Lib.decDigits,dif_neg h]
 have HI:Hid (∀ W:World,Calls Try.prog 71 #[.int .i64 ((n / 10:Nat):Int)] W fun e w'=>e=.returned (.string ⟨(Lib.decDigits (n / 10)).toArray⟩)∧Bel W w'):=ih;have HCV:Hid (∀ (W:World) (B:Nat) (z:Int),z=48+((n % 10:Nat):Int)→W.cell? ⟨B,0,none⟩=some (.int .u8 z)→(convert 22 9 (.slice (some ⟨B,0,none⟩) 1 1)).run Try.prog W=.ok (.string ⟨[UInt8.ofNat (48+n % 10)].toArray⟩) W):=fun W B z hz hc=>gT W B (n % 10) (Nat.mod_lt _ (by decide)) z hz hc;obtain⟨q,hq⟩:∃ q,q=n / 10:=⟨_,rfl⟩
 obtain⟨m,hm⟩:∃ m,m=n % 10:=⟨_,rfl⟩
 rw[← hq]at HI HE;rw[← hm]at HCV HE;have GA:m<10:=by omega
 have hqb:q≤1000000000:=by omega
 have e1:IntKind.i64.wrap ((n:Int) / 10)=(q:Int):=by rw[wrap_small _ (by omega) (by omega)];omega
 have e2:(n:Int).tmod 10=(m:Int):=by rw[Int.tmod_eq_emod_of_nonneg (by omega)];omega
 have e3:IntKind.i64.wrap (48+(m:Int))=48+m:=wrap_small _ (by omega) (by omega);have e4:IntKind.u8.wrap (48+(m:Int))=48+m:=wF _ (by omega) (by omega);clear ih hq hm;go_enter Try.func71,Try.ntmps71
 go_wp2_with fail
 have hlen:¬ (9223372036854775807<(Lib.decDigits q).length+1):=by have:=Cs q hqb;omega
 have BV:Hid (∀ W w6:World,Bel W w6→(W.cell? ⟨w.heap.size,0,none⟩=some (.int .u8 (48+(m:Int)))∧w.heap.size<W.heap.size)→(convert 22 9 (.slice (some ⟨w.heap.size,0,none⟩) 1 1)).run Try.prog w6=.ok (.string ⟨[UInt8.ofNat (48+m)].toArray⟩) w6):=
  fun W w6 hb hc=>gT w6 w.heap.size m GA _ rfl ((hb.cell (p:=⟨w.heap.size,0,none⟩) hc.2).trans hc.1)
 have hcA:=gT ((w.alloc (.cells #[.int .u8 (48+(m:Int))] 5)).drew) w.heap.size m GA _ rfl (by simp);go_region_with (first|(go_at_call 71;refine(HI.out _).mono ?_;rintro e w6 ⟨rfl,lX⟩;have hc6:=gT (w6.alloc (.cells #[.int .u8 (48+(m:Int))] 5)) w6.heap.size m GA _ rfl (by simp);have hc7:=BV.out _ _ lX;try (simp at hc7)))
 all_goals
  go_wp2;go_ret;refine⟨?_, ?_⟩
  ·show Ending.returned (.string (⟨(Lib.decDigits q).toArray⟩++⟨#[48+UInt8.ofNat m]⟩))=_;rw[HE.out,zG];simp
  ·repeat(first|exact zR|exact ai (by repeat(first|exact zR|refine Below.drew ?_|refine ah ?_ _)) lX|refine Below.drew ?_|refine ah ?_ _)
theorem zW (n:Nat) (hb:n≤1000000000) (w:World):
  Calls Try.prog 71 #[.int .i64 (n:Nat)] w fun e w'=>e=.returned (.string ⟨(Lib.decDigits n).toArray⟩)∧Bel w w':=by
 induction n using Nat.strongRecOn generalizing w with
 |_ n ih=>
  by_cases h:n<10
  ·exact qn n w h
  ·exact uw n w h hb fun W=>ih (n / 10) (by omega) (by omega) W
theorem ng (s:ByteArray) (w:World) (hs:s.size≤maxLen):
  Calls Try.prog 28 #[.string s] w fun e w'=>e=.returned (.bool (Pl.cd s))∧w=w':=by
 unfold maxLen at hs;by_cases gN:1≤s.size∧s.size≤20
 ·obtain⟨h1,h2⟩:=gN;have hb:(decide ((1:Int)≤(s.size:Int))&&decide ((s.size:Int)≤20))=true:=by simp;omega
  go_enter Try.func28,Try.ntmps28
  go_wp2_with (go_at_call 57;refine(jz _ _ _ _).mono ?_;rintro e w' ⟨rfl,rfl⟩)
  go_loop [3] (fun i=>∃ k:Nat,k≤s.size∧i=.int .i64 k∧(s.data.toList.take k).all Pl.cr=true) (fun i=>s.size - (intOf i).toNat)
  case atStart=>exact⟨0,zN,rfl,rfl⟩
  case round=>
   obtain⟨k,hk,rfl,bC⟩:=hrel;have HA:Hid ((s.data.toList.take k).all Pl.cr=true):=bC;clear bC;by_cases bN:k<s.size
   ·have Ca:Hid ((s.data.toList.take (k+1)).all Pl.cr=Pl.cr s[k]):=by show _=_;rw[Pl.iQ _ _ _ bN,HA.out];rfl
    have Ia:Hid (Pl.cr s[k]=false→Pl.cd s=false):=fun h=>by simp[Pl.cd,Pl.nameBytes,Pl.all_false _ s k bN h]
    obtain⟨b,fE⟩:∃ b,b=s[k]:=⟨_,rfl⟩
    have jR:s[k]=b:=fE.symm;clear fE;rw[jR]at Ca Ia;go_wp2
    all_goals simp only[Bool.not_eq_eq_eq_not,Bool.not_true,Bool.not_false,beq_iff_eq,beq_eq_false_iff_ne,decide_eq_true_eq,decide_eq_false_iff_not]at*
    all_goals first
     |(have hn:Pl.cr b=false:=by rw[Bool.eq_false_iff];simp[Pl.cr];omega
       go_ret;exact⟨Pl.aB (Ia.out hn).symm,rfl⟩)
     |(have hn:Pl.cr b=true:=by simp[Pl.cr];omega
       go_round
       case rel=>exact⟨k+1,by omega,by go_num,by rw[Ca.out,hn]⟩
       case measure=>simp[intOf];omega)
   ·have HF:Hid (Pl.cd s=true):=by
     show Pl.cd s=true;have:=Pl.pL Pl.cr s k (by omega);simp only[Pl.cd,Pl.nameBytes,← this,HA.out];simp;omega
    go_wp2;go_ret;exact⟨Pl.aB HF.out.symm,rfl⟩
 ·have HF:Hid (Pl.cd s=false):=by
   show Pl.cd s=false;have:(decide (1≤s.size)&&decide (s.size≤20))=false:=by
    rw[Bool.eq_false_iff];simp;omega
   simp[Pl.cd,this]
  have hb:(decide ((1:Int)≤(s.size:Int))&&decide ((s.size:Int)≤20))=false:=by
   rw[Bool.eq_false_iff];simp;omega
  clear gN;go_enter Try.func28,Try.ntmps28
  go_wp2_with (go_at_call 57;refine(jz _ _ _ _).mono ?_;rintro e w' ⟨rfl,rfl⟩)
  go_ret;exact⟨Pl.aB HF.out.symm,rfl⟩
theorem ie (s:ByteArray) (w:World) (hs:s.size≤maxLen):
  Calls Try.prog 86 #[.string s] w fun e w'=>e=.returned (.bool (Pl.di s))∧Bel w w':=by
 unfold maxLen at hs;by_cases gN:1≤s.size∧s.size≤7
 ·obtain⟨h1,h7⟩:=gN;have hb:(decide ((1:Int)≤(s.size:Int))&&decide ((s.size:Int)≤7))=true:=by simp;omega
  go_enter Try.func86,Try.ntmps86
  go_wp2_with (go_at_call 57;refine(jz _ _ _ _).mono ?_;rintro e w' ⟨rfl,rfl⟩)
  go_loop [3,4] (fun n i=>∃ k:Nat,k≤s.size∧i=.int .i64 k∧n=.int .i64 (Pl.bu (s.data.toList.take k))∧(s.data.toList.take k).all Pl.digit=true) (fun _ i=>s.size - (intOf i).toNat)
  case atStart=>exact⟨0,zN,rfl,rfl,rfl⟩
  case round=>
   obtain⟨k,hk,rfl,rfl,bC⟩:=hrel;have uG:=Pl.kO s k hk (by omega) bC;obtain⟨b1,b2⟩:=uG;have HA:Hid ((s.data.toList.take k).all Pl.digit=true):=bC;clear bC;by_cases bN:k<s.size
   ·have HS:Hid (Pl.bu (s.data.toList.take (k+1))=Pl.bu (s.data.toList.take k)*10+((s[k].toNat:Int) - 48)):=Pl.iR s k bN;by_cases hd:48≤(s[k].toNat:Int)∧(s[k].toNat:Int)≤57
    ·obtain⟨d1,d2⟩:=hd;have d3:¬ (s[k].toNat:Int)<48:=by omega
     have d4:¬ (57:Int)<(s[k].toNat:Int):=by omega
     go_wp2;go_round
     case rel=>exact⟨k+1,by omega,by go_num,by first|(rw[HS.out];go_num)|rw[HS.out],by rw[Pl.iQ _ _ _ bN,HA.out];simp[Pl.digit];omega⟩
     case measure=>simp[intOf];omega
    ·have HF:Hid (Pl.di s=false):=by
      show Pl.di s=false;have:s.data.toList.all Pl.digit=false:=Pl.all_false _ s k bN (by rw[Bool.eq_false_iff];simp[Pl.digit];omega);simp[Pl.di,Pl.dC,this]
     by_cases BH:(s[k].toNat:Int)<48
     ·go_wp2;go_ret;exact⟨Pl.aB HF.out.symm,zR⟩
     ·have Gh:(57:Int)<(s[k].toNat:Int):=by omega
      go_wp2;go_ret;exact⟨Pl.aB HF.out.symm,zR⟩
   ·have e:s.data.toList.take k=s.data.toList:=List.take_of_length_le (by simp;omega);rw[e]at HA b1 b2;rw[e];have Ld:=uh (Pl.FP s h1 HA.out);have jC:Hid (Pl.di s=((!Pl.lead s)&&decide (Pl.bu s.data.toList≤1000000))):=by
     show _=_;simp[Pl.di,Pl.dC,HA.out,h1,h7]
    obtain⟨v,hv⟩:∃ v,v=(Pl.bu s.data.toList).toNat:=⟨_,rfl⟩
    have Jm:Pl.bu s.data.toList=(v:Int):=by omega
    rw[Jm]at jC Ld;rw[Jm];have fK:v≤1000000000:=by omega
    have HC:=uh (fun W=>zW v fK W);obtain⟨L,hL⟩:∃ L,L=Pl.lead s:=⟨_,rfl⟩
    rw[← hL]at jC Ld;have hT:((⟨(Lib.decDigits v).toArray⟩:ByteArray).toList==s.toList)= !L:=by
     rw[Pl.tl,Pl.tl];simpa using Ld.out
    obtain⟨D,hD⟩:∃ D:ByteArray,D=⟨(Lib.decDigits v).toArray⟩:=⟨_,rfl⟩
    rw[← hD]at HC hT;clear hD hL Jm hv e b1 b2 HA Ld;cases L
    ·have hT2:(D.toList==s.toList)=true:=hT;clear hT;go_wp2_with (go_at_call 71;refine(HC.out _).mono ?_;rintro e w' ⟨rfl,gM⟩)
     go_ret;exact⟨Pl.aB (by rw[jC.out];simp),gM⟩
    ·have hT2:(D.toList==s.toList)=false:=hT;clear hT;have HF:Hid (Pl.di s=false):=by show _=_;rw[jC.out];rfl
     go_wp2_with (go_at_call 71;refine(HC.out _).mono ?_;rintro e w' ⟨rfl,gM⟩)
     go_ret;exact⟨Pl.aB HF.out.symm,gM⟩
 ·have HF:Hid (Pl.di s=false):=by
   show Pl.di s=false;have:(decide (1≤s.size)&&decide (s.size≤7))=false:=by
    rw[Bool.eq_false_iff];simp;omega
   simp[Pl.di,Pl.dC,this]
  have hb:(decide ((1:Int)≤(s.size:Int))&&decide ((s.size:Int)≤7))=false:=by
   rw[Bool.eq_false_iff];simp;omega
  clear gN;go_enter Try.func86,Try.ntmps86
  go_wp2_with (go_at_call 57;refine(jz _ _ _ _).mono ?_;rintro e w' ⟨rfl,rfl⟩)
  go_ret;exact⟨Pl.aB HF.out.symm,zR⟩
theorem Ff (s:ByteArray) (h:0<s.size):(s.data.toList.headD 0==45)=((s[0].toNat:Int)==45):=by
 rw[Pl.qo s h,Pl.na];rfl
theorem xn (s:ByteArray) (w:World) (hs:s.size≤maxLen):
  Calls Try.prog 76 #[.int .i64 2,.string s] w fun e w'=>e=.returned (.bool (Pl.dW 2 s))∧Bel w w':=by
 have HF:Hid (Pl.dW 2 s=Pl.pn s):=by show _=_;unfold Pl.dW;rw[if_neg (by decide),if_pos rfl]
 have oT:=uh (fun W=>ie s W hs);have I6:(s.extract 1 s.size).size≤maxLen:=by rw[ByteArray.size_extract];omega
 have j9:=uh (fun W=>ie (s.extract 1 s.size) W I6);have EZ:Hid (Pl.pn s=(Pl.di s||(decide (1<s.size)&&(s.data.toList.headD 0==45)&& !((s.extract 1 s.size).toList==[48])&&Pl.di (s.extract 1 s.size)))):=rfl;unfold maxLen at hs;obtain⟨n1,tu⟩:∃ n,n=Pl.di s:=⟨_,rfl⟩
 obtain⟨n2,qW⟩:∃ n,n=Pl.di (s.extract 1 s.size):=⟨_,rfl⟩
 rw[← tu]at oT EZ;rw[← qW]at j9 EZ;clear tu qW I6;cases n1
 rotate_left
 ·go_enter Try.func76,Try.ntmps76
  go_wp2_with (go_at_call 86;refine(oT.out _).mono ?_;rintro e w' ⟨rfl,hb⟩)
  go_ret;exact⟨Pl.aB (by rw[HF.out,EZ.out];rfl),hb⟩
 by_cases h1:1<s.size
 rotate_left
 ·go_enter Try.func76,Try.ntmps76
  go_wp2_with (go_at_call 86;refine(oT.out _).mono ?_;rintro e w' ⟨rfl,hb⟩)
  go_ret;exact⟨Pl.aB (by rw[HF.out,EZ.out];simp[h1]),hb⟩
 have HH:=uh (Ff s (by omega));obtain⟨X,hX⟩:∃ X,X=s.extract 1 s.size:=⟨_,rfl⟩
 have hXx:s.extract 1 s.size=X:=hX.symm;rw[hXx]at j9 EZ;clear hX;cases Hi:((s[0].toNat:Int)==45)
 ·go_enter Try.func76,Try.ntmps76
  go_wp2_with (go_at_call 86;refine(oT.out _).mono ?_;rintro e w' ⟨rfl,hb⟩)
  go_ret;exact⟨Pl.aB (by rw[HF.out,EZ.out,HH.out,Hi];simp),hb⟩
 cases h0:(X.toList==[48])
 rotate_left
 ·have h0':(X.toList !=[48])=false:=by rw[bne,h0];rfl
  go_enter Try.func76,Try.ntmps76
  go_wp2_with (go_at_call 86;refine(oT.out _).mono ?_;rintro e w' ⟨rfl,hb⟩)
  go_ret;exact⟨Pl.aB (by rw[HF.out,EZ.out,h0];simp),hb⟩
 have h0':(X.toList !=[48])=true:=by rw[bne,h0];rfl
 go_enter Try.func76,Try.ntmps76
 go_wp2_with fail
 refine(oT.out _).mono ?_;rintro e w1 ⟨rfl,bZ⟩;go_wp2_with fail
 refine(j9.out _).mono ?_;rintro e w2 ⟨rfl,dP⟩;go_wp2;go_ret;exact⟨Pl.aB (by rw[HF.out,EZ.out,HH.out,Hi,h0];simp[h1]),ai bZ dP⟩
theorem AH (t:Int) (s:ByteArray) (w:World) (hs:s.size≤maxLen):
  Calls Try.prog 76 #[.int .i64 t,.string s] w fun e w'=>e=.returned (.bool (Pl.dW t s))∧Bel w w':=by
 by_cases t2:t=2
 ·subst t2;exact xn s w hs
 have e2:(t==2)=false:=by simpa using t2
 by_cases t1:t=1
 ·subst t1;have HF:Hid (Pl.di s=Pl.dW 1 s):=by show _=_;unfold Pl.dW;rw[if_pos rfl]
  clear e2;go_enter Try.func76,Try.ntmps76
  go_wp2_with (go_at_call 86;refine(ie _ _ hs).mono ?_;rintro e w' ⟨rfl,hb⟩)
  go_ret;exact⟨Pl.aB HF.out,hb⟩
 have e1:(t==1)=false:=by simpa using t1
 by_cases t3:t=3
 ·subst t3;have HF:Hid (Pl.cd s=Pl.dW 3 s):=by show _=_;unfold Pl.dW;rw[if_neg (by decide),if_neg (by decide),if_pos rfl]
  clear e1 e2;go_enter Try.func76,Try.ntmps76
  go_wp2_with (go_at_call 28;refine(ng _ _ hs).mono ?_;rintro e w' ⟨rfl,rfl⟩)
  go_ret;exact⟨Pl.aB HF.out,zR⟩
 have e3:(t==3)=false:=by simpa using t3
 by_cases t5:t=5
 ·subst t5;have HF:Hid (((s.toList==[121,101,115])||(s.toList==[110,111]))=Pl.dW 5 s):=by show _=_;unfold Pl.dW;rw[if_neg (by decide),if_neg (by decide),if_neg (by decide),if_pos rfl]
  clear e1 e2 e3;cases y:(s.toList==[121,101,115])
  all_goals
   rw[y]at HF;go_enter Try.func76,Try.ntmps76
   go_wp2;go_ret;exact⟨Pl.aB (by first|exact HF.out|(rw[← HF.out];simp)),zR⟩
 have e5:(t==5)=false:=by simpa using t5
 by_cases t6:t=6
 ·subst t6;have HF:Hid (((s.toList==[110,111,110,101])||(s.toList==[98,101,114,116,104])||(s.toList==[122,111,110,101]))=Pl.dW 6 s):=by show _=_;unfold Pl.dW;rw[if_neg (by decide),if_neg (by decide),if_neg (by decide),if_neg (by decide),if_pos rfl]
  clear e1 e2 e3 e5;cases y1:(s.toList==[110,111,110,101])
  all_goals cases y2:(s.toList==[98,101,114,116,104])
  all_goals
   rw[y1,y2]at HF;go_enter Try.func76,Try.ntmps76
   go_wp2;go_ret;exact⟨Pl.aB (by first|exact HF.out|(rw[← HF.out];simp)),zR⟩
 have e6:(t==6)=false:=by simpa using t6
 have HF:Hid (decide (s.size≤200)=Pl.dW t s):=by show _=_;unfold Pl.dW;rw[if_neg t1,if_neg t2,if_neg t3,if_neg t5,if_neg t6]
 unfold maxLen at hs;clear t1 t2 t3 t5 t6;go_enter Try.func76,Try.ntmps76
 go_wp2;go_ret;exact⟨Pl.aB (by rw[← HF.out,Bool.eq_iff_iff];simp<;>omega),zR⟩
theorem mL (r:Pl.Ru):(ruD r).length=4:=rfl
theorem eE {W:World} {l:List Pl.Ru} {v:Value} (h:Raw W [.row 40 aC] [bQ l] [v]) {k:Nat} (hk:k<l.length):∃ p o c a1 c1 v3,v=.slice (some ⟨p,o,none⟩) l.length c∧p<W.heap.size∧W.rangeAt p (o+k*4) [.string (l.getD k Pl.aO).key,.slice a1 (l.getD k Pl.aO).args.length c1,.bool (l.getD k Pl.aO).many,v3]∧Raw W [.row 3 [.i]] [.row (l.getD k Pl.aO).args.length ((l.getD k Pl.aO).args.map .i)] [.slice a1 (l.getD k Pl.aO).args.length c1]∧Raw W [.row 9 [.s]] [.row (l.getD k Pl.aO).dflt.length (txD (l.getD k Pl.aO).dflt)] [v3]:=by
 rcases h.slice with⟨e0,_⟩|⟨p,o,c,hv,hp,_,vs,hr,hR⟩
 ·omega
 ·obtain⟨ve,hE,hg⟩:=hR.el hk hr;have e:el aC.length k (l.flatMap ruD)=ruD (l.getD k Pl.aO):=fJ Pl.aO ruD 4 mL l k hk;rw[e]at hE;obtain⟨v1,v3,hc,r1,r3⟩:=qm hE;subst hc;obtain⟨a1,c1,h1⟩:=r1.aP;subst h1;exact⟨p,o,c,a1,c1,v3,hv,hp,hg,r1,r3⟩
theorem fS (kind key:ByteArray) (w:World):
  Calls Try.prog 26 #[.string kind,.string key] w fun e w'=>e=.returned (.int .i64 (Pl.ixI (Pl.bJ (Pl.aj kind) key)))∧Bel w w':=by
 have HC:=uh (fun W=>cB kind W);obtain⟨l,hl⟩:∃ l,l=Pl.aj kind:=⟨_,rfl⟩
 have Jh:l.length≤100:=by
  rw[hl];unfold Pl.aj;split
  ·decide
  ·split
   ·decide
   ·split<;>decide
 rw[← hl]at HC ⊢;clear hl;go_enter Try.func26,Try.ntmps26
 go_wp2_with fail
 refine(HC.out _).mono ?_;rintro e w1 ⟨v,F,rfl,hr,nd,lo,hb⟩;have HR:=uh hr.raw;have HB:=uh hb;obtain⟨va,vc,hv⟩:=hr.raw.aP;subst hv;clear hr nd lo hb HC;go_wp2;go_loop [6] (fun i=>∃ k:Nat,k≤l.length∧i=.int .i64 k∧Pl.bJ l key=Pl.eK key (l.drop k) k) (fun i=>l.length - (intOf i).toNat)
 case atStart=>exact⟨0,zN,rfl,rfl⟩
 case round=>
  obtain⟨k,hk,rfl,hI⟩:=hrel;have HI:=uh hI;clear hI;by_cases bN:k<l.length
  ·obtain⟨p,o,c,a1,c1,v3,hv,hp,hg,_,_⟩:=eE HR.out bN;injection hv with e1 _ e3
   subst e1;subst e3;have y0:w1.cell? ⟨p,o+k*4,none⟩=some (.string (l.getD k Pl.aO).key):=aF hg 0 _ rfl;have dd:(0:Int)≤(k:Int):=by omega
   have de:(k:Int)<(l.length:Int):=by omega
   have HM:=uh (fun h=>Pl.pQ bN HI.out h);have HH:=uh (fun h=>Pl.sA bN HI.out h);obtain⟨x,hx⟩:∃ x,x=(l.getD k Pl.aO).key:=⟨_,rfl⟩
   rw[← hx]at y0 HM HH;clear hx hg;cases hq:(x.toList==key.toList)
   ·have HX:=uh (HM.out hq);go_wp2;go_round
    case rel=>exact⟨k+1,by omega,by go_num,HX.out⟩
    case measure=>simp[intOf];omega
   ·have HX:Hid ((k:Int)=Pl.ixI (Pl.bJ l key)):=by show _=_;rw[HH.out hq];rfl
    go_wp2;go_ret;exact⟨Pl.dh HX.out,HB.out⟩
  ·obtain rfl:k=l.length:=by omega
   have HX:Hid (-1=Pl.ixI (Pl.bJ l key)):=by show _=_;rw[Pl.sL HI.out];rfl
   go_wp2;go_ret;exact⟨Pl.dh HX.out,HB.out⟩
def VFi (va vb:Value) (p1 o1 p2 o2 k:Nat) (z:Int) (x:ByteArray) (b:Bool) (jj:Nat) (u:Value) (_:World):Prop:=match jj with
 |0=>u=va
 |1|5=>u=.int .i64 (k:Int)
 |2=>u=.pointer (some ⟨p1,o1+k,none⟩)
 |3=>u=.int .i64 z
 |4=>u=vb
 |6=>u=.pointer (some ⟨p2,o2+k,none⟩)
 |7=>u=.string x
 |8=>u=.bool b
 |9=>u=.bool (!b)
 |_=>True
theorem AP (va vb:Value) (p1 o1 p2 o2 k:Nat) (z:Int) (x:ByteArray) (b:Bool):∀ j u W W',Bel W W'→VFi va vb p1 o1 p2 o2 k z x b j u W→VFi va vb p1 o1 p2 o2 k z x b j u W':=by
 intro j u W W' hb h;match j with
 |0|1|2|3|4|5|6|7|8|9=>exact h
 |n+10=>exact trivial
theorem tR (kind key:ByteArray) (ws:List ByteArray) (wv:Value) (w:World) (hw:Raw w [.row 9 [.s]] [.row ws.length (txD ws)] [wv]) (hs:∀ x∈ws,x.size≤maxLen):
  Calls Try.prog 58 #[.string kind,.string key,wv] w fun e w'=>e=.returned (.bool (Pl.bU kind key ws))∧Bel w w':=by
 have HW:=uh hw;have x6:=uh hs;obtain⟨wa2,Jj,Hv⟩:=hw.aP;subst Hv;have oC:=uh (fun W=>fS kind key W);have HC:=uh (fun W=>cB kind W);have HF:Hid (Pl.bU kind key ws=match Pl.bJ (Pl.aj kind) key with
   |none=>false
   |some j=>Pl.gD ((Pl.aj kind).getD j Pl.aO).args ws):=rfl
 obtain⟨l,hl⟩:∃ l,l=Pl.aj kind:=⟨_,rfl⟩
 rw[← hl]at HC oC HF;clear hl hw hs;cases jR:Pl.bJ l key with
 |none=>
  rw[jR]at oC HF;have hm:Pl.ixI none= -1:=rfl;rw[hm]at oC;clear hm;go_enter Try.func58,Try.ntmps58
  go_wp2_with (go_at_call 26;refine(oC.out _).mono ?_;rintro e w1 ⟨rfl,hb⟩)
  go_ret;exact⟨Pl.aB HF.out.symm,hb⟩
 |some j=>
  have hj:=Pl.fm jR;rw[jR]at oC HF;have hm:Pl.ixI (some j)=(j:Int):=rfl;rw[hm]at oC;clear hm jR;have th:¬ (j:Int)<0:=by omega
  have sZ:(0:Int)≤(j:Int):=by omega
  have mR:(j:Int)<(l.length:Int):=by omega
  go_enter Try.func58,Try.ntmps58
  go_wp2_with fail
  refine(oC.out _).mono ?_;rintro e w1 ⟨rfl,bZ⟩;go_wp2_with fail
  refine(HC.out _).mono ?_;rintro e w2 ⟨v,F,rfl,hr,nd,lo,dP⟩;obtain⟨p,o,c,a1,c1,v3,hv,hp,hg,hA,_⟩:=eE hr.raw hj;subst hv;have y1:w2.cell? ⟨p,o+j*4+1,none⟩=some (.slice a1 (l.getD j Pl.aO).args.length c1):=aF hg 1 _ rfl;have HA:=uh hA;have HB:Hid (Bel w w2):=ai bZ dP;obtain⟨ag,has⟩:∃ ag,ag=(l.getD j Pl.aO).args:=⟨_,rfl⟩
  have Bs:Hid (Pl.bU kind key ws=Pl.gD ag ws):=by show _=_;rw[HF.out,has]
  rw[← has]at y1 HA;clear has hr nd lo bZ dP hg hA HC oC HF;by_cases hlen:ag.length=ws.length
  rotate_left
  ·have iM:((ag.length:Int) !=(ws.length:Int))=true:=by simp;omega
   have HX:Hid (Pl.bU kind key ws=false):=by show _=_;rw[Bs.out,Pl.gD];simp[hlen]
   clear hlen;go_wp2;go_ret;exact⟨Pl.aB HX.out.symm,HB.out⟩
  have HX:Hid (Pl.bU kind key ws=Pl.fu ag ws):=by show _=_;rw[Bs.out,Pl.gD];simp[hlen]
  rw[hlen]at y1 HA;obtain⟨n,hn⟩:∃ n,n=ws.length:=⟨_,rfl⟩
  have BP:Hid (Raw w2 [.row 9 [.s]] [.row n (txD ws)] [.slice wa2 n Jj]):=by show Raw _ _ _ _;rw[hn];exact HW.out.ae HB.out
  rw[← hn]at y1 HA hlen ⊢;have lb:Hid (ag.length=n∧ws.length=n):=⟨hlen,hn.symm⟩
  have iM:((n:Int) !=(n:Int))=false:=by simp
  clear hn hlen Bs HW;go_wp2;go_loopw [9] (fun i wr=>∃ k:Nat,k≤n∧i=.int .i64 k∧Bel w2 wr∧Pl.fu ag ws=Pl.fu (ag.drop k) (ws.drop k)) (fun i _=>n - (intOf i).toNat)
  case atStart=>exact⟨0,zN,rfl,zR,rfl⟩
  case round=>
   obtain⟨k,hk,rfl,BM,hI⟩:=hrel;have He:=uh BM;have HI:=uh hI;clear BM hI y1;by_cases bN:k<n
   rotate_left
   ·obtain rfl:k=n:=by omega
    have HE:Hid (Pl.bU kind key ws=true):=by
     show _=_;rw[HX.out,HI.out,List.drop_of_length_le (by have:=lb.out.1;omega),Pl.fu];intro _ _ _ _ h;cases h
    go_wp2;go_ret;exact⟨Pl.aB HE.out.symm,ai HB.out He.out⟩
   have HS:=uh (@Pl.rI ag ws k (by have:=lb.out.1;omega) (by have:=lb.out.2;omega));obtain⟨z,hz⟩:∃ z,z=ag.getD k 0:=⟨_,rfl⟩
   obtain⟨x,hx⟩:∃ x,x=ws.getD k ⟨#[]⟩:=⟨_,rfl⟩
   have I6:x.size≤maxLen:=by
    have qL:k<ws.length:=by have:=lb.out.2;omega
    have e:ws.getD k ⟨#[]⟩=ws[k]:=by simp[qL]
    rw[hx,e];exact x6.out _ (List.getElem_mem qL)
   have tA:=uh (fun W=>AH z x W I6);rcases(HA.out.ae He.out).slice with⟨e0,_⟩|⟨p1,o1,LM,jK,pW,_,vs1,ji,lg⟩
   ·omega
   rcases(BP.out.ae He.out).slice with⟨e0,_⟩|⟨p2,o2,GX,fK,oy,ec,vs2,kh,eL⟩
   ·omega
   have IY:=ec.1;unfold maxLen at IY;clear ec;injection jK with g1 _ g3
   injection fK with k1 _ k3
   subst g1;subst g3;subst k1;subst k3;obtain⟨ve1,J0,vP⟩:=lg.el bN ji;obtain⟨ve2,Gp,oR⟩:=eL.el bN kh;have Bw:el 1 k (ag.map Dt.i)=[.i z]:=by rw[hz];exact gC 0 Dt.i ag k (by have:=lb.out.1;omega)
   have Bc:el 1 k (txD ws)=[.s x]:=by rw[hx];exact gC ⟨#[]⟩ Dt.s ws k (by have:=lb.out.2;omega)
   have Bn:Raw wr [.i] [.i z] ve1:=by rw[← Bw];exact J0
   have Bu:Raw wr [.s] [.s x] ve2:=by rw[← Bc];exact Gp
   obtain rfl:=yT Bn;obtain rfl:=vA Bu;have y1:wr.cell? ⟨p1,o1+k,none⟩=some (.int .i64 z):=by have:=aF vP 0 _ rfl;simpa using this
   have y2:wr.cell? ⟨p2,o2+k,none⟩=some (.string x):=by have:=aF oR 0 _ rfl;simpa using this
   have HK:Hid (wr.cell? ⟨p1,o1+k,none⟩=some (.int .i64 z)∧wr.cell? ⟨p2,o2+k,none⟩=some (.string x)∧p1<wr.heap.size∧p2<wr.heap.size):=⟨y1,y2,pW,oy⟩
   rw[← hz,← hx]at HS;obtain⟨b,fL⟩:∃ b,b=Pl.dW z x:=⟨_,rfl⟩
   rw[← fL]at HS;have HC:Hid (∀ W,Calls Try.prog 76 #[.int .i64 z,.string x] W fun e w'=>e=.returned (.bool b)∧Bel W w'):=by rw[fL];exact tA.out
   have dd:(0:Int)≤(k:Int):=by omega
   have de:(k:Int)<(n:Int):=by omega
   clear lg eL ji kh J0 Gp Bn Bu Bw Bc vP oR hz hx fL tA y1 y2 pW oy I6;go_upto_region 10 with fail
   refine RY.cY wr zR (VFi (.slice (some ⟨p1,o1,none⟩) n c1) (.slice (some ⟨p2,o2,none⟩) n Jj) p1 o1 p2 o2 k z x b) (AP _ _ _ _ _ _ _ _ _ _) (by kernel_rfl) (by kernel_rfl) (by kernel_rfl) (by kernel_rfl) ?_ ?_
   ·intro i o' ho a X hX hk hd;have ya:X.cell? ⟨p1,o1+k,none⟩=some (.int .i64 z):=(hX.cell (p:=⟨p1,o1+k,none⟩) HK.out.2.2.1).trans HK.out.1;have yb:X.cell? ⟨p2,o2+k,none⟩=some (.string x):=(hX.cell (p:=⟨p2,o2+k,none⟩) HK.out.2.2.2).trans HK.out.2.1;match i,ho with
    |0,rfl=>
     exact RY.p (.slice (some ⟨p1,o1,none⟩) n c1) (by simp[execOp,go_sem,RY.K hk 8 (.slice (some ⟨p1,o1,none⟩) n c1)])
    |1,rfl|5,rfl=>
     exact RY.p (.int .i64 (k:Int)) (by simp[execOp,go_sem,RY.K hk 9 (.int .i64 (k:Int))])
    |2,rfl=>
     exact RY.p (.pointer (some ⟨p1,o1+k,none⟩)) (by simp[execOp,go_sem,RY.E hd 0 32,RY.E hd 1 33,dd,de])
    |3,rfl=>
     exact RY.p (.int .i64 z) (by simp[execOp,go_sem,RY.E hd 2 34,ya])
    |4,rfl=>
     exact RY.p (.slice (some ⟨p2,o2,none⟩) n Jj) (by simp[execOp,go_sem,RY.K hk 2 (.slice (some ⟨p2,o2,none⟩) n Jj)])
    |6,rfl=>
     exact RY.p (.pointer (some ⟨p2,o2+k,none⟩)) (by simp[execOp,go_sem,RY.E hd 4 36,RY.E hd 5 37,dd,de])
    |7,rfl=>
     exact RY.p (.string x) (by simp[execOp,go_sem,RY.E hd 6 38,yb])
    |8,rfl=>
     have e35:=RY.E hd 3 35;have e39:=RY.E hd 7 39;refine Or.inr ⟨76,#[.int .i64 z,.string x],by simp[go_sem,e35,e39],(HC.out X).mono ?_⟩;rintro e W' ⟨rfl,hb⟩;exact⟨_,rfl,hb,rfl⟩
    |9,rfl=>
     exact RY.p (.bool (!b)) (by simp[execOp,go_sem,RY.E hd 8 40])
    |n+10,ho=>simp at ho
   intro X vs hX bd;have q41:vs 41=_:=bd 9 _ 41 rfl rfl;simp only[RY.aE,Act.put,List.setIfInBounds_toArray,List.set_cons_zero,List.set_cons_succ];rw[q41];generalize vs 32=o6,vs 33=og,vs 34=oz,vs 35=k6,vs 36=k9,vs 37=lj,vs 38=lY,vs 39=mu,vs 40=s40;clear bd q41;replace He:=uh (ai He.out hX)
   clear hX HK;cases b
   ·have HE:Hid (Pl.bU kind key ws=false):=by show _=_;rw[HX.out,HI.out,HS.out];rfl
    go_wp2;go_ret;exact⟨Pl.aB HE.out.symm,ai HB.out He.out⟩
   ·have HN:Hid (Pl.fu ag ws=Pl.fu (ag.drop (k+1)) (ws.drop (k+1))):=by show _=_;rw[HI.out,HS.out];rfl
    go_wp2;go_roundw
    case rel=>exact⟨k+1,by omega,by go_num,He.out,HN.out⟩
    case measure=>simp[intOf];omega
end Go.Proofs.Ytmgibmmpopoboaa
