import Derived.Lib.Bytealg
import Derived.Lib.IndexLaws
import Derived.Test.YtopjjknojnfhmaaGreatDoorEIb
import Derived.Test.YtopjjknojnfhmaaGreatDoorEIg
import Derived.Test.YtopjjknojnfhmaaGreatDoorRgSt
import Derived.Test.YtopjjknojnfhmaaGreatDoorRgMk
namespace Go.Proofs.YtopjjknojnfhmaaGreatDoor
open Go.RowKit Go.Deep
namespace RY
end RY
def xG (l:List UInt8):List Dt:=match Pl.bE l 0 with
 |some ws=> [.row ws.length (txD ws),.b false]
 |none=> [.row 0 [],.b true]
theorem sU (w:World) (l:List UInt8) (h:Pl.bE l 0=none) (we:World) (hb:Bel w we):Ans iM (xG l) w (.returned (.agg [.slice none 0 0,.bool true].toArray)) we:=by
 rw[xG,h];exact⟨[.slice none 0 0,.bool true],[],rfl,.emp _ _ none rfl (.b _ .nil),List.nodup_nil,by simp,hb⟩
end Go.Proofs.YtopjjknojnfhmaaGreatDoor
namespace Go.Proofs.YtopjjknojnfhmaaGreatDoor.Pl
def sp (c:UInt8):Bool:=decide (c.toNat=32)
def jy (l:List UInt8):List UInt8:=match l.dropWhile sp with
 |[]=> []
 |c::r=>if c.toNat=35 then [] else c::r
theorem zg:∀ (l:List UInt8) (c:UInt8) (r:List UInt8),l.dropWhile sp=c::r→c.toNat≠32
 |[],c,r,h=>by cases h
 |a::l,c,r,h=>by
  rw[List.dropWhile_cons]at h;split at h
  ·exact zg l c r h
  ·rename_i hn
   injection h with h1 _
   subst h1;simpa [sp]using hn
theorem pj {l:List UInt8} {c:UInt8} {r:List UInt8} (h:jy l=c::r):c.toNat≠32∧c.toNat≠35:=by
 unfold jy at h;split at h
 ·cases h
 ·rename_i c' r' h'
  split at h
  ·cases h
  ·rename_i hn
   injection h with h1 h2
   subst h1;exact⟨zg l _ _ h',hn⟩
theorem Ds:∀ (l:List UInt8) (m:Nat),bE (l.dropWhile sp) m=bE l m
 |[],_=>rfl
 |a::l,m=>by
  rw[List.dropWhile_cons];split
  ·rename_i h
   rw[Ds l m,bE,if_pos (by simpa [sp]using h)]
  ·rfl
theorem vg (l:List UInt8) (m:Nat):bE (jy l) m=bE l m:=by
 rw[← Ds l m];unfold jy;split
 ·rename_i h;rw[h]
 ·rename_i c r h
  rw[h];split
  ·rename_i h35
   rw[bE,bE,if_neg (by omega),if_pos h35]
  ·rfl
def dq (c:UInt8) (l:List UInt8):UInt8×Nat:=
 if eC c then (c,1)
 else if c.toNat=92∧2≤l.length∧0≤fh (l.getD 0 0)∧0≤fh (l.getD 1 0) then (UInt8.ofNat (16*fh (l.getD 0 0)+fh (l.getD 1 0)).toNat,3)
 else (0,0)
theorem Ci (c:UInt8) (l:List UInt8) (h:c.toNat≠34):gq (c::l)=if (dq c l).2=0 then none else (gq ((c::l).drop (dq c l).2)).map fun p=>((dq c l).1::p.1,p.2+(dq c l).2):=by
 rw[gq,if_neg h];by_cases hs:eC c=true
 ·have FU:32≤c.toNat∧c.toNat≤126∧c.toNat≠92:=by
   simp only[eC,Bool.and_eq_true,decide_eq_true_eq,bne_iff_ne]at hs;exact⟨hs.1.1.1,hs.1.1.2,hs.2⟩
  have e:dq c l=(c,1):=by unfold dq;rw[if_pos hs]
  rw[e,if_neg FU.2.2,if_pos ⟨FU.1,FU.2.1⟩];simp
 ·by_cases h92:c.toNat=92
  ·rw[if_pos h92];by_cases hx:2≤l.length∧0≤fh (l.getD 0 0)∧0≤fh (l.getD 1 0)
   ·have e:dq c l=(UInt8.ofNat (16*fh (l.getD 0 0)+fh (l.getD 1 0)).toNat,3):=by unfold dq;rw[if_neg hs,if_pos ⟨h92,hx⟩]
    rw[e,if_pos hx];simp
   ·have e:dq c l=(0,0):=by unfold dq;rw[if_neg hs,if_neg (fun e=>hx e.2)]
    rw[e,if_neg hx];simp
  ·have FU:¬ (32≤c.toNat∧c.toNat≤126):=by
    simp only[eC,Bool.and_eq_true,decide_eq_true_eq,bne_iff_ne]at hs;intro e;exact hs ⟨⟨⟨e.1,e.2⟩,h⟩,h92⟩
   have e:dq c l=(0,0):=by unfold dq;rw[if_neg hs,if_neg (fun e=>h92 e.1)]
   rw[e,if_neg h92,if_neg FU];simp
theorem Az (c:UInt8):Lib.indexByte [48,49,50,51,52,53,54,55,56,57,97,98,99,100,101,102] c=fh c:=by
 have key:∀ n:Fin 256,Lib.indexByte [48,49,50,51,52,53,54,55,56,57,97,98,99,100,101,102] (UInt8.ofNat n.1)=fh (UInt8.ofNat n.1):=by decide+kernel
 have:=key ⟨c.toNat,vP c⟩;simpa using this
theorem Nf {a:ByteArray} {l:List UInt8} (h:a.data.toList=l):a=⟨l.toArray⟩:=by rw[← h,back]
theorem DA {a:ByteArray} {c:UInt8} {r:List UInt8} (h:a.data.toList=c::r):1≤a.size:=by rw[← aD,h];simp
theorem Nr {a:ByteArray} {c:UInt8} {r:List UInt8} (h:a.data.toList=c::r) (h0:0<a.size):a[0]=c:=by
 have:a.data.toList.headD 0=a[0]:=oh a h0;rw[← this,h];rfl
end Go.Proofs.YtopjjknojnfhmaaGreatDoor.Pl
namespace Go.Proofs.YtopjjknojnfhmaaGreatDoor
set_option maxRecDepth 8000
set_option maxHeartbeats 40000000
open Go.RowKit Go.Deep
theorem AU (s:ByteArray) (w:World):
  Calls Tryz.prog 137 #[.string s,.int .u8 32] w fun e w'=>∃ x:ByteArray,e=.returned (.string x)∧x.data.toList=s.data.toList.dropWhile Pl.sp∧x.size≤s.size∧w=w':=by
 go_enter Tryz.func137,Tryz.ntmps137
 go_wp2;go_loop [0] (fun v=>∃ x:ByteArray,v=.string x∧x.size≤s.size∧Hid (x.data.toList.dropWhile Pl.sp=s.data.toList.dropWhile Pl.sp)) (fun v=>match v with|.string x=>x.size|_=>0)
 case atStart=>exact⟨s,rfl,zE,rfl⟩
 case round=>
  obtain⟨x,rfl,hx,HI⟩:=hrel;by_cases h1:1≤x.size
  ·have d0:decide ((0:Int)<(x.size:Int))=true:=by simp;omega
   have kR:=Pl.iU x 0 (by omega);rw[List.drop_zero]at kR;by_cases h32:x[0].toNat=32
   ·have d1:((x[0].toNat:Int)==32)=true:=by simp;omega
    have HN:Hid ((x.extract 1 x.size).data.toList.dropWhile Pl.sp=s.data.toList.dropWhile Pl.sp):=by
     show _=_;rw[← HI.out,Pl.jX,kR,List.dropWhile_cons,if_pos (by simpa [Pl.sp]using h32)];rfl
    clear kR h32;go_wp2;go_round
    case rel=>exact⟨_,rfl,by simp[ByteArray.size_extract];omega,HN⟩
    case measure=>simp[ByteArray.size_extract];omega
   ·have d1:((x[0].toNat:Int)==32)=false:=by simp;omega
    have HN:Hid (x.data.toList=s.data.toList.dropWhile Pl.sp):=by
     show _=_;rw[← HI.out,kR,List.dropWhile_cons,if_neg (by simpa [Pl.sp]using h32)]
    clear kR h32;go_wp2;go_ret;exact⟨x,rfl,HN.out,hx,rfl⟩
  ·have d0:decide ((0:Int)<(x.size:Int))=false:=by rw[decide_eq_false_iff_not];omega
   have HN:Hid (x.data.toList=s.data.toList.dropWhile Pl.sp):=by
    show _=_;have e:x.data.toList=[]:=List.eq_nil_of_length_eq_zero (by rw[Pl.aD];omega);rw[← HI.out,e];rfl
   go_wp2;go_ret;exact⟨x,rfl,HN.out,hx,rfl⟩
theorem zP (s:ByteArray) (w:World):
  Calls Tryz.prog 131 #[.string s,.string {data:=#[32]}] w fun e w'=>∃ x:ByteArray,e=.returned (.string x)∧x.data.toList=s.data.toList.dropWhile Pl.sp∧x.size≤s.size∧w=w':=by
 by_cases h1:1≤s.size
 ·have h0:=Pl.fE s h1;have HC:=uh (AU s w);go_enter Tryz.func131,Tryz.ntmps131
  go_wp2_with (go_at_call 137;refine HC.out.mono ?_;rintro e w' ⟨x,rfl,hx,hz,rfl⟩)
  go_ret;exact⟨x,rfl,hx,hz,rfl⟩
 ·have h0:=Pl.fq s h1;go_enter Tryz.func131,Tryz.ntmps131
  go_wp2;go_ret;refine⟨s,rfl, ?_,zE,rfl⟩;have e:s.data.toList=[]:=List.eq_nil_of_length_eq_zero (by rw[Pl.aD];omega);rw[e];rfl
theorem zW (s:ByteArray) (w:World):
  Calls Tryz.prog 116 #[.string s] w fun e w'=>∃ x:ByteArray,e=.returned (.string x)∧x.data.toList=Pl.jy s.data.toList∧x.size≤s.size∧w=w':=by
 have HC:=uh (zP s w);go_enter Tryz.func116,Tryz.ntmps116
 go_wp2_with fail
 refine HC.out.mono ?_;rintro e w' ⟨x,rfl,hx,hz,rfl⟩;have HX:=uh hx;clear hx HC;by_cases h1:1≤x.size
 ·have h0:=Pl.fE x h1;have kR:=Pl.iU x 0 (by omega);rw[List.drop_zero]at kR;by_cases h35:x[0].toNat=35
  ·have d1:((x[0].toNat:Int)==35)=true:=by simp;omega
   have HN:Hid (([]:List UInt8)=Pl.jy s.data.toList):=by
    show _=_;unfold Pl.jy;rw[← HX.out,kR];simp[h35]
   clear kR h35;go_wp2;go_ret;exact⟨_,rfl,HN.out,by show 0≤_;omega,rfl⟩
  ·have d1:((x[0].toNat:Int)==35)=false:=by simp;omega
   have HN:Hid (x.data.toList=Pl.jy s.data.toList):=by
    show _=_;unfold Pl.jy;rw[← HX.out,kR];simp[h35]
   clear kR h35;go_wp2;go_ret;exact⟨_,rfl,HN.out,hz,rfl⟩
 ·have h0:=Pl.fq x h1;have HN:Hid (x.data.toList=Pl.jy s.data.toList):=by
   show _=_;have e:x.data.toList=[]:=List.eq_nil_of_length_eq_zero (by rw[Pl.aD];omega);unfold Pl.jy;rw[← HX.out,e]
  go_wp2;go_ret;exact⟨_,rfl,HN.out,hz,rfl⟩
theorem Gv (s:ByteArray) (w:World):
  Calls Tryz.prog 118 #[.string s] w fun e w'=>e=.returned (.bool (Pl.behind s.data.toList))∧w=w':=by
 by_cases h1:1≤s.size
 ·have h0:=Pl.fE s h1;have kR:=Pl.iU s 0 (by omega);rw[List.drop_zero]at kR;have HB:Hid (Pl.behind s.data.toList=(((s[0].toNat:Int)==32)||((s[0].toNat:Int)==35))):=by
   show _=_;rw[kR];show (decide (s[0].toNat=32)||decide (s[0].toNat=35))=_;rw[Bool.eq_iff_iff];simp;omega
  clear kR;cases h32:((s[0].toNat:Int)==32)
  all_goals
   rw[h32]at HB;go_enter Tryz.func118,Tryz.ntmps118
   go_wp2;go_ret;exact⟨Pl.aq (by rw[HB.out];simp),rfl⟩
 ·have h0:=Pl.fq s h1;have e:s.data.toList=[]:=List.eq_nil_of_length_eq_zero (by rw[Pl.aD];omega);go_enter Tryz.func118,Tryz.ntmps118
  go_wp2;go_ret;exact⟨Pl.aq (by rw[e];rfl),rfl⟩
theorem xR (s:ByteArray) (w:World) (h1:1≤s.size):
  Calls Tryz.prog 117 #[.string s] w fun e w'=>e=.returned (if s[0].toNat=34 then .iface 191 (.agg #[]) else .iface 175 (.agg #[]))∧w=w':=by
 by_cases h34:s[0].toNat=34
 ·have d1:((s[0].toNat:Int)==34)=true:=by simp;omega
  rw[if_pos h34];clear h34;go_enter Tryz.func117,Tryz.ntmps117
  go_wp2;go_ret;exact⟨rfl,rfl⟩
 ·have d1:((s[0].toNat:Int)==34)=false:=by simp;omega
  rw[if_neg h34];clear h34;go_enter Tryz.func117,Tryz.ntmps117
  go_wp2;go_ret;exact⟨rfl,rfl⟩
theorem wX (s:ByteArray) (c:UInt8) (w:World):
  Calls Tryz.prog 126 #[.string s,.int .u8 c.toNat] w fun e w'=>e=.returned (.int .i64 (Lib.indexByte s.data.toList c))∧w=w':=by
 have hc:((c.toNat:Int)).toNat.toUInt8=c:=by simp
 have HE:=uh hc;clear hc;go_enter Tryz.func126,Tryz.ntmps126
 go_wp2;rw[run_callFunc_extern Tryz.func134 (by kernel_rfl) (by kernel_rfl) (by kernel_rfl) (e:=Extern.BytealgIndexByte.indexByte) (by kernel_rfl),Lib.run_indexByteString];simp only[Result.andThen];rw[Oper.upon_value];rw[HE.out];go_wp2;go_ret;exact⟨rfl,rfl⟩
theorem Ef (c:UInt8) (w:World):
  Calls Tryz.prog 146 #[.string {data:=#[48,49,50,51,52,53,54,55,56,57,97,98,99,100,101,102]},.int .u8 c.toNat] w fun e w'=>e=.returned (.int .i64 (Pl.fh c))∧w=w':=by
 have HC:=uh (wX {data:=#[48,49,50,51,52,53,54,55,56,57,97,98,99,100,101,102]} c w);have HE:Hid (Lib.indexByte ({data:=#[48,49,50,51,52,53,54,55,56,57,97,98,99,100,101,102]}:ByteArray).data.toList c=Pl.fh c):=Pl.Az c;rw[HE.out]at HC;go_enter Tryz.func146,Tryz.ntmps146
 go_wp2_with (go_at_call 126;refine HC.out.mono ?_;rintro e w' ⟨rfl,rfl⟩)
 go_ret;exact⟨rfl,rfl⟩
theorem QV:∀ a b:Fin 16,bits BinOp.or IntKind.i64 ((a.1:Int)*16) (b.1:Int) % 256=16*(a.1:Int)+(b.1:Int):=by decide+kernel
def VIq (s:ByteArray) (b1 b2:UInt8) (x1 x2:Int) (jj:Nat) (u:Value) (_:World):Prop:=match jj with
 |0|3=>u=.string s
 |1=>u=.int .u8 (b1.toNat:Int)
 |2|6=>u=.int .i64 x1
 |4=>u=.int .u8 (b2.toNat:Int)
 |5|7=>u=.int .i64 x2
 |_=>True
theorem Ei (s:ByteArray) (b1 b2:UInt8) (x1 x2:Int):∀ j u W W',Bel W W'→VIq s b1 b2 x1 x2 j u W→VIq s b1 b2 x1 x2 j u W':=by
 intro j u W W' hb h;match j with
 |0|1|2|3|4|5|6|7=>exact h
 |n+8=>exact trivial
theorem Al (s:ByteArray) (c:UInt8) (l:List UInt8) (w:World) (hc:s.data.toList=c::l) (hs:s.size≤1048576):
  Calls Tryz.prog 182 #[.string s] w fun e w'=>e=.returned (.tuple #[.int .u8 (Pl.dq c l).1.toNat,.int .i64 ((Pl.dq c l).2:Int)])∧Bel w w':=by
 have h1:=Pl.DA hc;have hat:=Pl.Nr hc (by omega);have hlen:l.length+1=s.size:=by rw[← Pl.aD,hc,List.length_cons]
 have HP:=uh (fun w=>gX c w);have HC:=uh hc;clear hc;cases hsf:Pl.eC c
 rotate_left
 ·have HR:Hid (Pl.dq c l=(c,1)):=by show _=_;unfold Pl.dq;rw[if_pos hsf]
  rw[hsf]at HP;clear hsf;go_enter Tryz.func182,Tryz.ntmps182
  go_wp2_with (go_at_call 109;refine(HP.out _).mono ?_;rintro e w' ⟨rfl,rfl⟩)
  go_ret2;rw[HR.out];exact⟨rfl,zR⟩
 have Qd:=uh hsf;rw[hsf]at HP;clear hsf;by_cases h92:c.toNat=92
 rotate_left
 ·have HR:Hid (Pl.dq c l=(0,0)):=by show _=_;unfold Pl.dq;rw[if_neg (by rw[Qd.out];decide),if_neg (fun e=>h92 e.1)]
  have d1:((c.toNat:Int) !=92)=true:=by simp;omega
  clear h92;go_enter Tryz.func182,Tryz.ntmps182
  go_wp2_with (go_at_call 109;refine(HP.out _).mono ?_;rintro e w' ⟨rfl,rfl⟩)
  go_ret2;rw[HR.out];exact⟨rfl,zR⟩
 have d1:((c.toNat:Int) !=92)=false:=by simp;omega
 by_cases h3:3≤s.size
 rotate_left
 ·have HR:Hid (Pl.dq c l=(0,0)):=by show _=_;unfold Pl.dq;rw[if_neg (by rw[Qd.out];decide),if_neg (fun e=>by have:=e.2.1;omega)]
  have d3:decide ((s.size:Int)<3)=true:=by simp;omega
  clear h92;go_enter Tryz.func182,Tryz.ntmps182
  go_wp2_with (go_at_call 109;refine(HP.out _).mono ?_;rintro e w' ⟨rfl,rfl⟩)
  go_ret2;rw[HR.out];exact⟨rfl,zR⟩
 have d3:decide ((s.size:Int)<3)=false:=by simp;omega
 have e1:s[1]=l.getD 0 0:=by
  have:=Pl.IX s 0 1 (by omega);rw[List.drop_zero,HC.out]at this;simpa using this.symm
 have e2:s[2]=l.getD 1 0:=by
  have:=Pl.IX s 0 2 (by omega);rw[List.drop_zero,HC.out]at this;simpa using this.symm
 have HR:Hid (Pl.dq c l=if 0≤Pl.fh (l.getD 0 0)∧0≤Pl.fh (l.getD 1 0) then (UInt8.ofNat (16*Pl.fh (l.getD 0 0)+Pl.fh (l.getD 1 0)).toNat,3) else (0,0)):=by
  show _=_;unfold Pl.dq;rw[if_neg (by rw[Qd.out];decide)];by_cases hx:0≤Pl.fh (l.getD 0 0)∧0≤Pl.fh (l.getD 1 0)
  ·rw[if_pos hx,if_pos ⟨h92,by omega,hx⟩]
  ·rw[if_neg hx,if_neg (fun e=>hx e.2.2)]
 obtain⟨b1,bJ⟩:∃ b,b=l.getD 0 0:=⟨_,rfl⟩
 obtain⟨b2,eD⟩:∃ b,b=l.getD 1 0:=⟨_,rfl⟩
 rw[← bJ]at e1 HR;rw[← eD]at e2 HR;have H5:=uh (fun w=>Ef b1 w);have JG:=uh (fun w=>Ef b2 w);have g1:=Pl.yT b1;have g2:=Pl.yT b2;obtain⟨x1,ed⟩:∃ x,x=Pl.fh b1:=⟨_,rfl⟩
 obtain⟨x2,fV⟩:∃ x,x=Pl.fh b2:=⟨_,rfl⟩
 rw[← ed]at H5 HR g1;rw[← fV]at JG HR g2;clear bJ eD ed fV h92 HC Qd;have HI1:Hid (∀ w,(Instr.index 9 (.string s) (.int .i64 1)).run Tryz.prog w=.ok (.int .u8 b1.toNat) w):=fun w=>by
  rw[run_index_string w 9 _ .i64 1 (by kernel_rfl),dif_pos ⟨by omega,by omega⟩,← e1];rfl
 have HI2:Hid (∀ w,(Instr.index 9 (.string s) (.int .i64 2)).run Tryz.prog w=.ok (.int .u8 b2.toNat) w):=fun w=>by
  rw[run_index_string w 9 _ .i64 2 (by kernel_rfl),dif_pos ⟨by omega,by omega⟩,← e2];rfl
 clear e1 e2;go_enter Tryz.func182,Tryz.ntmps182
 go_upto_region 5 with(go_at_call 109;refine(HP.out _).mono ?_;rintro e w' ⟨rfl,rfl⟩)
 refine RY.cA w zR (VIq s b1 b2 x1 x2) (Ei _ _ _ _ _) (by kernel_rfl) (by kernel_rfl) (by kernel_rfl) (by kernel_rfl) ?_ ?_
 ·intro i o' ho a X hX hk hd;match i,ho with
  |0,rfl|3,rfl=>
   exact RY.p (.string s) (by simp[execOp,go_sem,RY.K hk 0 (.string s)])
  |1,rfl=>
   exact RY.p (.int .u8 (b1.toNat:Int)) (by simp[execOp,go_sem,RY.E hd 0 19,HI1.out X])
  |2,rfl=>
   have e20:=RY.E hd 1 20;refine Or.inr ⟨146,#[.string {data:=#[48,49,50,51,52,53,54,55,56,57,97,98,99,100,101,102]},.int .u8 b1.toNat],by simp[go_sem,e20],(H5.out X).mono ?_⟩;rintro e W' ⟨rfl,rfl⟩;exact⟨_,rfl,zR,rfl⟩
  |4,rfl=>
   exact RY.p (.int .u8 (b2.toNat:Int)) (by simp[execOp,go_sem,RY.E hd 3 22,HI2.out X])
  |5,rfl=>
   have e23:=RY.E hd 4 23;refine Or.inr ⟨146,#[.string {data:=#[48,49,50,51,52,53,54,55,56,57,97,98,99,100,101,102]},.int .u8 b2.toNat],by simp[go_sem,e23],(JG.out X).mono ?_⟩;rintro e W' ⟨rfl,rfl⟩;exact⟨_,rfl,zR,rfl⟩
  |6,rfl=>
   exact RY.p (.int .i64 x1) (by simp[execOp,go_sem,RY.E hd 2 21])
  |7,rfl=>
   exact RY.p (.int .i64 x2) (by simp[execOp,go_sem,RY.E hd 5 24])
  |n+8,ho=>simp at ho
 intro X vs hX bg;have q4:vs 4=_:=bg 6 _ 4 rfl rfl;have q5:vs 5=_:=bg 7 _ 5 rfl rfl;simp only[RY.aC,Act.put,List.setIfInBounds_toArray,List.set_cons_zero,List.set_cons_succ];rw[q4,q5];generalize vs 19=s19,vs 20=s20,vs 21=s21,vs 22=s22,vs 23=s23,vs 24=s24;clear bg q4 q5;replace hX:=uh hX
 have B8:=hX;clear hX;by_cases p1:x1<0
 ·have HF:Hid (Pl.dq c l=(0,0)):=by show _=_;rw[HR.out,if_neg (by omega)]
  go_wp2;go_ret2;rw[HF.out];exact⟨rfl,B8.out⟩
 by_cases p2:x2<0
 ·have HF:Hid (Pl.dq c l=(0,0)):=by show _=_;rw[HR.out,if_neg (by omega)]
  go_wp2;go_ret2;rw[HF.out];exact⟨rfl,B8.out⟩
 have HF:Hid (Pl.dq c l=(UInt8.ofNat (16*x1+x2).toNat,3)):=by show _=_;rw[HR.out,if_pos (by omega)]
 go_wp2;go_ret2;rw[HF.out];refine⟨?_,B8.out⟩;have e:=QV ⟨x1.toNat,by omega⟩ ⟨x2.toNat,by omega⟩;have a1:((x1.toNat:Nat):Int)=x1:=by omega
 have a2:((x2.toNat:Nat):Int)=x2:=by omega
 simp only[a1,a2]at e;have e':((UInt8.ofNat (16*x1+x2).toNat).toNat:Int)=16*x1+x2:=by rw[UInt8.toNat_ofNat'];omega
 show Ending.returned (.tuple #[.int .u8 (bits BinOp.or IntKind.i64 (x1*16) x2 % 256),.int .i64 3])=.returned (.tuple #[.int .u8 ((UInt8.ofNat (16*x1+x2).toNat).toNat:Int),.int .i64 3]);rw[e,e']
def tj (v:Value):Nat:=match v with
 |.string x=>x.size
 |_=>0
def QI (s:ByteArray) (r:List UInt8) (w:World) (e:Ending) (w':World):Prop:=
 Bel w w'∧((Pl.gq r=none∧∃ a b,e=.returned (.tuple #[.string a,.string b,.bool false]))∨∃ x n b,Pl.gq r=some (x,n)∧ByteArray.toList b=r.drop n∧b.size≤s.size∧e=.returned (.tuple #[.string ⟨x.toArray⟩,.string b,.bool true]))
theorem vm (s:ByteArray) (c0:UInt8) (r:List UInt8) (w:World) (hc:s.data.toList=c0::r) (hs:s.size≤1048576):
  Calls Tryz.prog 181 #[.agg #[],.string s] w (QI s r w):=by
 have h1:=Pl.DA hc;have hlen:r.length+1=s.size:=by rw[← Pl.aD,hc,List.length_cons]
 have HT:Hid ((s.extract 1 s.size).data.toList=r):=by show _=_;rw[Pl.jX,hc];rfl
 clear hc;go_enter Tryz.func181,Tryz.ntmps181
 go_wp2;go_loopw [7,8] (fun v u wr=>∃ (O:List UInt8) (x:ByteArray) (k:Nat),u=.string x∧By wr w.heap.size v O∧O.length≤k∧k+x.size=r.length∧x.data.toList=r.drop k∧Bel w wr∧Pl.gq r=(Pl.gq (r.drop k)).map fun p=>(O++p.1,k+p.2)) (fun _ u _=>tj u)
 case atStart=>exact⟨[],s.extract 1 s.size,0,rfl,By.nil _ _,zE,by rw[← Pl.aD,HT.out];omega,HT.out,ae zR _,by simp⟩
 case round=>
  obtain⟨O,x,k,rfl,hO,fJ,hkx,hx,hW,hX⟩:=hrel;have jI:=uh fJ;have HO:=uh hO;have HW:=uh hW;have HX:=uh hX;have Qf:=uh hx;obtain⟨sa,sc,hv⟩:=hO.shape;subst hv;clear hO hW fJ hX hx HT;by_cases ed:1≤x.size
  rotate_left
  ·have h0:=Pl.fq x ed;have HR:Hid (Pl.gq r=none):=by
    show _=_;have e:r.drop k=[]:=by rw[← Qf.out];exact List.eq_nil_of_length_eq_zero (by rw[Pl.aD];omega)
    rw[HX.out,e,Pl.gq];rfl
   go_wp2;go_ret3
   exact⟨HW.out,Or.inl ⟨HR.out,_,_,rfl⟩⟩
  have h0:=Pl.fE x ed;obtain⟨c,Hj⟩:∃ c,c=x[0]:=⟨_,rfl⟩
  have kR:x.data.toList=c::x.data.toList.drop 1:=by
   have:=Pl.iU x 0 (by omega);rw[List.drop_zero]at this;rw[Hj];exact this
  have hat:x[0]=c:=Hj.symm;clear Hj;obtain⟨l,hl⟩:∃ l,l=x.data.toList.drop 1:=⟨_,rfl⟩
  rw[← hl]at kR;have jE:Hid (r.drop k=c::l):=by show _=_;rw[← Qf.out,kR]
  have Pu:=uh (fun W=>Al x c l W kR (by omega));have HB8:=uh (Pl.vP c);have HD:=uh kR;clear kR hl;by_cases c34:c.toNat=34
  ·have d1:((c.toNat:Int)==34)=true:=by simp;omega
   have HR:Hid (Pl.gq r=some (O,k+1)):=by
    show _=_;rw[HX.out,jE.out,Pl.gq,if_pos c34];simp
   have HE:Hid ((x.extract 1 x.size).toList=r.drop (k+1)):=by
    show _=_;rw[Pl.tl,Pl.jX,Qf.out,List.drop_drop]
   have Ie:=(HO.out.later (Below.drew (Below.refl wr.heap.size wr))).zp;clear c34 Pu;go_wp2;go_region
   all_goals go_wp2
   all_goals go_ret3
   all_goals refine⟨?_,Or.inr ⟨O,k+1,_,HR.out,HE.out,by simp[ByteArray.size_extract];omega,rfl⟩⟩
   all_goals repeat(first|exact HW.out|refine ae ?_ _|refine Below.drew ?_)
  have d1:((c.toNat:Int)==34)=false:=by simp;omega
  have HQ:=uh (Pl.Ci c l c34);obtain⟨b,n,qB⟩:∃ b n,Pl.dq c l=(b,n):=⟨_,_,rfl⟩
  have hn:n=0∨n=1∨n=3∧2≤l.length:=by
   unfold Pl.dq at qB;split at qB
   ·injection qB with _ h;omega
   ·split at qB
    ·rename_i hh;injection qB with _ h;have:=hh.2.1;omega
    ·injection qB with _ h;omega
  have hn':n≤x.size:=by
   have e:x.size=l.length+1:=by rw[← Pl.aD,HD.out,List.length_cons]
   omega
  rw[qB]at HQ Pu;simp only at HQ Pu;clear c34 qB;by_cases wO:n=0
  ·subst wO;have HR:Hid (Pl.gq r=none):=by show _=_;rw[HX.out,jE.out,HQ.out];rfl
   go_wp2_with fail
   refine(Pu.out _).mono ?_;rintro e w1 ⟨rfl,bJ⟩;go_wp2;go_ret3
   exact⟨ah HW.out bJ,Or.inl ⟨HR.out,_,_,rfl⟩⟩
  have d2:((n:Int)==0)=false:=by simp;omega
  have HN:Hid (Pl.gq r=(Pl.gq (r.drop (k+n))).map fun p=>((O++[b])++p.1,(k+n)+p.2)):=by
   show _=_;rw[HX.out,jE.out,HQ.out,if_neg wO,← jE.out,List.drop_drop,Option.map_map];congr 1;funext p
   simp only[Function.comp,Prod.mk.injEq];exact⟨by simp,by omega⟩
  have HE:Hid ((x.extract n x.size).data.toList=r.drop (k+n)):=by
   show _=_;rw[Pl.jX,Qf.out,List.drop_drop]
  have qs:(n:Int)≤(x.size:Int):=by omega
  have hn0':(0:Int)≤(n:Int):=by omega
  go_wp2_with fail
  refine(Pu.out _).mono ?_;rintro e w1 ⟨rfl,bJ⟩;replace HO:=uh (HO.out.later bJ)
  replace HW:=uh (ah HW.out bJ)
  clear bJ;go_wp2_with (refine k6 rfl _ _ rfl w.heap.size (.slice sa O.length sc) O rfl (HO.out.later (ae zR _)) w1.heap.size 1 1 [b] rfl rfl (World.news_of_block (cs:=#[.int .u8 (b.toNat:Int)]) (heap_alloc_new w1 _)) (by decide) (by have:=jI.out;omega) (by have:=HW.out.size;simp;omega) ?_;intro g1 c1 w2 q1 q2)
  go_roundw
  case rel=>exact⟨O++[b],_,k+n,rfl,by simpa using q1,by have:=jI.out;simp;omega,by simp[ByteArray.size_extract];omega,HE.out,(HO.out.later (ae zR _)).below (ae HW.out _) q2 zE,HN.out⟩
  case measure=>simp[tj,ByteArray.size_extract];omega
def ScA (c:UInt8) (r:List UInt8) (w:World) (e:Ending) (w':World):Prop:=
 Bel w w'∧((Pl.fm c r=none∧∃ a b,e=.returned (.tuple #[.string a,.string b,.bool false]))∨∃ y n b,Pl.fm c r=some (y,n)∧ByteArray.toList b=r.drop n∧e=.returned (.tuple #[.string ⟨y.toArray⟩,.string b,.bool true]))
theorem Gt (s:ByteArray) (c:UInt8) (r:List UInt8) (w:World) (hc:s.data.toList=c::r) (hs:s.size≤1048576) (h34:c.toNat=34):
  Calls Tryz.prog 181 #[.agg #[],.string s] w (ScA c r w):=by
 refine(vm s c r w hc hs).mono ?_;have e0:Pl.fm c r=Pl.gq r:=by unfold Pl.fm;rw[if_pos h34]
 rintro e w' ⟨hb,⟨h1,h2⟩|⟨x,n,b,h1,h2,_,h3⟩⟩
 ·exact⟨hb,Or.inl ⟨by rw[e0,h1],h2⟩⟩
 ·exact⟨hb,Or.inr ⟨x,n,b,by rw[e0,h1],h2,h3⟩⟩
theorem NK (s:ByteArray) (c:UInt8) (r:List UInt8) (w:World) (hc:s.data.toList=c::r) (hs:s.size≤1048576) (h34:c.toNat≠34):
  Calls Tryz.prog 108 #[.agg #[],.string s] w (ScA c r w):=by
 refine(rI s w hs).mono ?_;rintro e w' ⟨p,hp,ht,he,hb⟩;rw[hc]at ht;have hlen:r.length+1=s.size:=by rw[← Pl.aD,hc,List.length_cons]
 refine⟨hb, ?_⟩;cases p with
 |zero=>
  left;refine⟨?_,_,_,he⟩;have Nc:Pl.bx c=false:=by
   rw[List.takeWhile_cons]at ht;cases hq:Pl.bx c
   ·rfl
   ·rw[hq]at ht;simp at ht
  unfold Pl.fm;rw[if_neg h34,Nc];rfl
 |succ p=>
  right;have Nc:Pl.bx c=true:=by
   rw[List.takeWhile_cons]at ht;cases hq:Pl.bx c
   ·rw[hq]at ht;simp at ht
   ·rfl
  have hl:((c::r).takeWhile Pl.bx).length=p+1:=by rw[ht,List.length_take,List.length_cons];omega
  have e1:s.extract 0 (p+1)=⟨((c::r).takeWhile Pl.bx).toArray⟩:=Pl.Nf (by rw[Pl.gu,hc,ht];rfl);refine⟨(c::r).takeWhile Pl.bx,p,s.extract (p+1) s.size, ?_, ?_, ?_⟩
  ·unfold Pl.fm;rw[if_neg h34,Nc,hl];rfl
  ·rw[Pl.tl,Pl.jX,hc];rfl
  ·rw[he,e1];have:decide (0<p+1)=true:=by simp
   rw[this]
theorem Hc (w:World) (l:List UInt8) (ws:List ByteArray) (v:Value) (h:Pl.bE l 0=some ws) (we:World) (hb:Bel w we) (hr:TxR we (w.heap.size+1) v ws):Ans iM (xG l) w (.returned (.agg [v,.bool false].toArray)) we:=by
 rw[xG,h];obtain⟨F,h1,h2,h3⟩:=hr.done;exact⟨[v,.bool false],F++[],rfl,h1.app (.b false .nil),by rw[List.append_nil];exact h2,fun b gb=>by rw[List.append_nil]at gb;have:=h3 b gb;omega,hb⟩
theorem NF (w:World):(method 341 191 (.agg #[]) "loop.example/wharfdesk/impl.scan").run Tryz.prog w=.ok (181,.agg #[]) w:=by kernel_rfl
theorem Nz (w:World):(method 341 175 (.agg #[]) "loop.example/wharfdesk/impl.scan").run Tryz.prog w=.ok (108,.agg #[]) w:=by kernel_rfl
structure WI (w wr:World) (v:Value) (ws:List ByteArray):Prop where
 bel:Bel w wr
 res:al wr w.heap.size 109 [.slice none 0 0,.bool false]
 row:TxR wr (w.heap.size+1) v ws
theorem WI.later {w wr wr':World} {v:Value} {ws:List ByteArray} (h:WI w wr v ws) (hb:Bel wr wr'):WI w wr' v ws:=⟨ah h.bel hb,h.res.later hb,h.row.later hb⟩
theorem vu (s:ByteArray) (w:World) (hs:s.size≤1048576):
  Calls Tryz.prog 98 #[.string s] w (Ans iM (xG s.data.toList) w):=by
 have tF:=uh (fun (x:ByteArray) W=>zW x W);go_enter Tryz.func98,Tryz.ntmps98
 go_wp2_with fail
 refine(tF.out _ _).mono ?_;rintro e w1 ⟨x0,rfl,oy,ga,qq⟩;subst qq;have H0:Hid (Pl.bE s.data.toList 0=(Pl.bE x0.data.toList 0).map ([]++·)∧∀ c r,x0.data.toList=c::r→c.toNat≠32∧c.toNat≠35):=by
  refine⟨?_,fun c r h=>Pl.pj (l:=s.data.toList) (by rw[← oy,h])⟩;rw[oy,Pl.vg];simp
 clear oy;go_wp2;go_loopw [3,4] (fun v u wr=>∃ (ws:List ByteArray) (x:ByteArray),u=.string x∧x.size≤s.size∧ws.length≤8∧WI w wr v ws∧Pl.bE s.data.toList 0=(Pl.bE x.data.toList ws.length).map (ws++·)∧∀ c r,x.data.toList=c::r→c.toNat≠32∧c.toNat≠35) (fun _ u _=>tj u)
 case atStart=>exact⟨[],x0,rfl,ga,by simp,⟨ae zR _,al.new _ [.slice none 0 0,.bool false] _ _ rfl,TxR.nil _ _⟩,H0.out.1,H0.out.2⟩
 case round=>
  obtain⟨ws,x,rfl,MU,NV,Rf,hcu,yw⟩:=hrel;have Mr:=uh Rf;have Lz:=uh hcu;obtain⟨va,vc,hv⟩:=Rf.row.shape;subst hv;clear Rf hcu H0;by_cases ed:1≤x.size
  rotate_left
  ·have h0:=Pl.fq x ed;have HR:Hid (Pl.bE s.data.toList 0=some ws):=by
    show _=_;have e:x.data.toList=[]:=List.eq_nil_of_length_eq_zero (by rw[Pl.aD];omega);rw[Lz.out,e,Pl.bE];simp
   have cp:wr.there w.heap.size 0 (#[.slice va ws.length vc,.bool false]:Array Value).size:=aR Mr.out.res.own _ _ (by simp);obtain⟨we,bM⟩:∃ we,we=wr.setCells w.heap.size 0 [.slice va ws.length vc,.bool false]:=⟨_,rfl⟩
   have fT:we.rangeAt w.heap.size 0 [.slice va ws.length vc,.bool false]:=by rw[bM];exact World.rangeAt_setCells_same _ _ _ _ cp
   have kq:Hid (Bel w we):=by show Below _ _ _;rw[bM];exact da zE _ _ _ Mr.out.bel
   have BD:Hid (TxR we (w.heap.size+1) (.slice va ws.length vc) ws):=by show TxR _ _ _ _;rw[bM];exact vK Mr.out.row (by omega) _
   clear yw;go_wp2_with (refine wpList_store_mid rfl 109 _ _ rfl w.heap.size 0 #[.slice va ws.length vc,.bool false] rfl rfl cp (by kernel_rfl) (by simp[Value.oneCell']) ?_)
   first|rw[← bM]|(simp only[List.toList_toArray];rw[← bM])
   try simp only[Act.put]
   refine bodyPost_ret (v:=.agg #[.slice va ws.length vc,.bool false]) (by simp[results,Tryz.results98,asAddr,run_loadVar_mid (P:=Tryz.prog) _ _ _ 109 [.slice va ws.length vc,.bool false] _ fT Tryz.underlying109 rfl (by kernel_rfl)]) rfl ?_;exact Hc w _ ws _ HR.out we kq.out BD.out
  have h0:=Pl.fE x ed;obtain⟨c,Hj⟩:∃ c,c=x[0]:=⟨_,rfl⟩
  obtain⟨r,hr⟩:∃ r,r=x.data.toList.drop 1:=⟨_,rfl⟩
  have kR:x.data.toList=c::r:=by
   have:=Pl.iU x 0 (by omega);rw[List.drop_zero]at this;rw[Hj,hr];exact this
  have qi:=uh (yw c r kR);have Ov:r.length+1=x.size:=by rw[← Pl.aD,kR,List.length_cons]
  have P2:Hid (∀ W,Calls Tryz.prog 117 #[.string x] W fun e w'=>e=.returned (if c.toNat=34 then .iface 191 (.agg #[]) else .iface 175 (.agg #[]))∧W=w'):=by rw[Hj];exact fun W=>xR x W ed
  rw[kR]at Lz;have Oe:((if c.toNat=34 then Value.iface 191 (.agg #[]) else .iface 175 (.agg #[]))=.iface 191 (.agg #[])∧∀ W,Calls Tryz.prog 181 #[.agg #[],.string x] W (ScA c r W))∨((if c.toNat=34 then Value.iface 191 (.agg #[]) else .iface 175 (.agg #[]))=.iface 175 (.agg #[])∧∀ W,Calls Tryz.prog 108 #[.agg #[],.string x] W (ScA c r W)):=by
   by_cases h34:c.toNat=34
   ·exact Or.inl ⟨by rw[if_pos h34],fun W=>Gt x c r W kR (by omega) h34⟩
   ·exact Or.inr ⟨by rw[if_neg h34],fun W=>NK x c r W kR (by omega) h34⟩
  have hme:=NF;have hmf:=Nz;rcases Oe with⟨R7,FC⟩|⟨R7,FC⟩
  all_goals
   rw[R7]at P2;have Jl:=uh FC;clear R7 FC kR Hj hr yw;go_wp2_with fail
   refine(P2.out _).mono ?_;rintro e w1 ⟨rfl,qq⟩;subst qq;go_wp2_with fail
   refine(Jl.out _).mono ?_;rintro e w1 ⟨bJ,⟨OX,a1,a2,rfl⟩|⟨y,n,b,hye,oI,rfl⟩⟩
   ·have tN:Hid (Pl.bE s.data.toList 0=none):=by show _=_;rw[Lz.out,Pl.QQ r c _ qi.out.1 qi.out.2 OX];rfl
    have Bn:=uh (Mr.out.later bJ);clear OX bJ Mr Jl hme hmf;have cp:w1.there w.heap.size 0 (#[.slice none 0 0,.bool true]:Array Value).size:=aR Bn.out.res.own _ _ (by simp);obtain⟨we,bM⟩:∃ we,we=w1.setCells w.heap.size 0 [.slice none 0 0,.bool true]:=⟨_,rfl⟩
    have fT:we.rangeAt w.heap.size 0 [.slice none 0 0,.bool true]:=by rw[bM];exact World.rangeAt_setCells_same _ _ _ _ cp
    have kq:Hid (Bel w we):=by show Below _ _ _;rw[bM];exact da zE _ _ _ Bn.out.bel
    go_wp2_with (refine wpList_store_mid rfl 109 _ _ rfl w.heap.size 0 #[.slice none 0 0,.bool true] rfl rfl cp (by kernel_rfl) (by simp[Value.oneCell']) ?_)
    first|rw[← bM]|(simp only[List.toList_toArray];rw[← bM])
    try simp only[Act.put]
    refine bodyPost_ret (v:=.agg #[.slice none 0 0,.bool true]) (by simp[results,Tryz.results98,asAddr,run_loadVar_mid (P:=Tryz.prog) _ _ _ 109 [.slice none 0 0,.bool true] _ fT Tryz.underlying109 rfl (by kernel_rfl)]) rfl ?_;exact sU w _ tN.out we kq.out
   have Bn:=uh (Mr.out.later bJ);have HYE:=uh hye;have HBD:=uh oI;have hbs:b.size≤r.length:=by
    have e:b.data.toList=r.drop n:=by rw[← Pl.tl];exact oI
    rw[← Pl.aD,e,List.length_drop];omega
   have Ey:=uh (fun W=>Gv b W);have Jm:Hid (b.data.toList=r.drop n):=by show _=_;rw[← Pl.tl];exact oI
   rw[Jm.out]at Ey;obtain⟨X,hX⟩:∃ X:ByteArray,X=⟨y.toArray⟩:=⟨_,rfl⟩
   have wM:=uh hX;have hXl:X.size=y.length:=by rw[hX];rfl
   rw[← hX];clear hX hye oI bJ Mr Jl hme hmf;have oB:=uh (fun h=>Pl.QT r c ws.length y n qi.out.1 qi.out.2 HYE.out h);have HYY:=uh (fun h=>Pl.Ce r c ws.length y n qi.out.1 qi.out.2 HYE.out h);cases hA:Pl.behind (r.drop n)
   ·have tN:Hid (Pl.bE s.data.toList 0=none):=by show _=_;rw[Lz.out,oB.out (by simp[hA])];rfl
    rw[hA]at Ey;clear hA;go_wp2_with fail
    refine(Ey.out _).mono ?_;rintro e w2 ⟨rfl,gI⟩;subst gI;have cp:w1.there w.heap.size 0 (#[.slice none 0 0,.bool true]:Array Value).size:=aR Bn.out.res.own _ _ (by simp);obtain⟨we,bM⟩:∃ we,we=w1.setCells w.heap.size 0 [.slice none 0 0,.bool true]:=⟨_,rfl⟩
    have fT:we.rangeAt w.heap.size 0 [.slice none 0 0,.bool true]:=by rw[bM];exact World.rangeAt_setCells_same _ _ _ _ cp
    have kq:Hid (Bel w we):=by show Below _ _ _;rw[bM];exact da zE _ _ _ Bn.out.bel
    go_wp2_with (refine wpList_store_mid rfl 109 _ _ rfl w.heap.size 0 #[.slice none 0 0,.bool true] rfl rfl cp (by kernel_rfl) (by simp[Value.oneCell']) ?_)
    first|rw[← bM]|(simp only[List.toList_toArray];rw[← bM])
    try simp only[Act.put]
    refine bodyPost_ret (v:=.agg #[.slice none 0 0,.bool true]) (by simp[results,Tryz.results98,asAddr,run_loadVar_mid (P:=Tryz.prog) _ _ _ 109 [.slice none 0 0,.bool true] _ fT Tryz.underlying109 rfl (by kernel_rfl)]) rfl ?_;exact sU w _ tN.out we kq.out
   have HAA:=uh hA;rw[hA]at Ey;clear hA;by_cases hB:(200:Int)<(X.size:Int)
   ·have tN:Hid (Pl.bE s.data.toList 0=none):=by show _=_;rw[Lz.out,oB.out (by simp;omega)];rfl
    go_wp2_with fail
    refine(Ey.out _).mono ?_;rintro e w2 ⟨rfl,gI⟩;subst gI;have cp:w1.there w.heap.size 0 (#[.slice none 0 0,.bool true]:Array Value).size:=aR Bn.out.res.own _ _ (by simp);obtain⟨we,bM⟩:∃ we,we=w1.setCells w.heap.size 0 [.slice none 0 0,.bool true]:=⟨_,rfl⟩
    have fT:we.rangeAt w.heap.size 0 [.slice none 0 0,.bool true]:=by rw[bM];exact World.rangeAt_setCells_same _ _ _ _ cp
    have kq:Hid (Bel w we):=by show Below _ _ _;rw[bM];exact da zE _ _ _ Bn.out.bel
    go_wp2_with (refine wpList_store_mid rfl 109 _ _ rfl w.heap.size 0 #[.slice none 0 0,.bool true] rfl rfl cp (by kernel_rfl) (by simp[Value.oneCell']) ?_)
    first|rw[← bM]|(simp only[List.toList_toArray];rw[← bM])
    try simp only[Act.put]
    refine bodyPost_ret (v:=.agg #[.slice none 0 0,.bool true]) (by simp[results,Tryz.results98,asAddr,run_loadVar_mid (P:=Tryz.prog) _ _ _ 109 [.slice none 0 0,.bool true] _ fT Tryz.underlying109 rfl (by kernel_rfl)]) rfl ?_;exact sU w _ tN.out we kq.out
   by_cases hC:ws.length=8
   ·have tN:Hid (Pl.bE s.data.toList 0=none):=by show _=_;rw[Lz.out,oB.out (by simp;omega)];rfl
    have d8:((ws.length:Int)==8)=true:=by simp;omega
    go_wp2_with fail
    refine(Ey.out _).mono ?_;rintro e w2 ⟨rfl,gI⟩;subst gI;have cp:w1.there w.heap.size 0 (#[.slice none 0 0,.bool true]:Array Value).size:=aR Bn.out.res.own _ _ (by simp);obtain⟨we,bM⟩:∃ we,we=w1.setCells w.heap.size 0 [.slice none 0 0,.bool true]:=⟨_,rfl⟩
    have fT:we.rangeAt w.heap.size 0 [.slice none 0 0,.bool true]:=by rw[bM];exact World.rangeAt_setCells_same _ _ _ _ cp
    have kq:Hid (Bel w we):=by show Below _ _ _;rw[bM];exact da zE _ _ _ Bn.out.bel
    go_wp2_with (refine wpList_store_mid rfl 109 _ _ rfl w.heap.size 0 #[.slice none 0 0,.bool true] rfl rfl cp (by kernel_rfl) (by simp[Value.oneCell']) ?_)
    first|rw[← bM]|(simp only[List.toList_toArray];rw[← bM])
    try simp only[Act.put]
    refine bodyPost_ret (v:=.agg #[.slice none 0 0,.bool true]) (by simp[results,Tryz.results98,asAddr,run_loadVar_mid (P:=Tryz.prog) _ _ _ 109 [.slice none 0 0,.bool true] _ fT Tryz.underlying109 rfl (by kernel_rfl)]) rfl ?_;exact sU w _ tN.out we kq.out
   have d8:((ws.length:Int)==8)=false:=by simp;omega
   have KW:Hid (Pl.bE s.data.toList 0=(Pl.bE (r.drop n) (ws++[X]).length).map ((ws++[X])++·)):=Pl.QK Lz.out (by rw[HYY.out (by rw[HAA.out];simp;omega),wM.out]);go_wp2_with fail
   refine(Ey.out _).mono ?_;rintro e w2 ⟨rfl,gI⟩;subst gI;go_wp2_with (refine Gl rfl _ _ rfl (w.heap.size+1) (.slice va ws.length vc) ws rfl (Bn.out.row.later (ae zR _)) w1.heap.size 1 1 [X] rfl rfl (World.news_of_block (cs:=#[.string X]) (heap_alloc_new w1 _)) (by decide) (by omega) (by have:=Bn.out.bel.size;have:=Bn.out.res.own.lt;simp;omega) ?_;intro g1 c1 w3 q1 q2)
   refine(tF.out _ _).mono ?_;rintro e w4 ⟨x',rfl,O0,hz',BM⟩;subst BM;have vZ:=Bn.out.later (ae zR (.cells #[.string X] 9));have tS:(Value.slice va ws.length vc).ownBlock≠some w.heap.size:=fun e=>by have:=(bI vZ.row e).1;omega
   have yx:Hid (WI w w3 (.slice (some ⟨g1,0,none⟩) (ws.length+1) c1) (ws++[X])):=⟨vZ.row.below vZ.bel q2 (by omega),vZ.res.grow q2 tS,q1⟩
   have HCC:Hid (Pl.bE s.data.toList 0=(Pl.bE x'.data.toList (ws++[X]).length).map ((ws++[X])++·)∧∀ c r,x'.data.toList=c::r→c.toNat≠32∧c.toNat≠35):=by
    refine⟨?_,fun c' r' h=>Pl.pj (l:=b.data.toList) (by rw[← O0,h])⟩;rw[KW.out,O0,Pl.vg,Jm.out]
   clear O0 q1 q2 tS vZ;go_wp2;go_roundw
   case rel=>exact⟨ws++[X],x',rfl,by omega,by simp;omega,yx.out,HCC.out.1,HCC.out.2⟩
   case measure=>simp[tj];omega
namespace Pl
def iS (acc:List UInt8):List UInt8→List (List UInt8)
 |[]=>if acc.isEmpty then [] else [acc]
 |c::l=>if c.toNat=10 then acc::iS [] l else iS (acc++[c]) l
def fM (s:ByteArray):List ByteArray:=(iS [] s.data.toList).map fun x=>⟨x.toArray⟩
end Pl
theorem Tryz.Gx:(Tryz.prog.info? 9).map (fun i=>(i.zero,i.size,decide (i.bytes≤4096)))=some (some (.string ByteArray.empty),1,true):=by kernel_rfl
theorem Tryz.CE:Tryz.prog.underlying 44=some (.slice 9):=by kernel_rfl
theorem GN (n:Nat) (h:n≤1048576):∃ cs:Array Value,cs.size=n*1∧∀ W:World,
  (Instr.makeSlice 44 (.int .i64 (n:Int)) (.int .i64 (n:Int))).run Tryz.prog W=.ok (.slice (some ⟨W.heap.size,0,none⟩) n n) (W.alloc (.cells cs 9)):=by
 obtain⟨i,hi,LH⟩:=Option.map_eq_some_iff.1 Tryz.Gx;simp only[Prod.mk.injEq,decide_eq_true_eq]at LH;obtain⟨hz,hs,hb⟩:=LH;refine⟨madeCells ((.string ByteArray.empty):Value).cells (n*1),size_madeCells _ _,fun W=> ?_⟩;have MD:(i.bytes:Int)*(n:Int)≤281474976710656:=by
  have e:((i.bytes*n:Nat):Int)≤((4096*1048576:Nat):Int):=Int.ofNat_le.2 (Nat.mul_le_mul hb h);rw[Int.natCast_mul]at e;exact Int.le_trans e (by decide)
 have hr:=run_make (P:=Tryz.prog) W 44 9 i _ Tryz.CE hi hz .i64 .i64 n n (by omega) (Int.le_refl _) MD (by omega);simp only[Int.toNat_natCast,hs]at hr;exact hr
namespace Pl
def spA (acc:List UInt8):List UInt8→List (List UInt8)
 |[]=> [acc]
 |c::l=>if c.toNat=10 then acc::spA [] l else spA (acc++[c]) l
def spS (s:ByteArray):List ByteArray:=(spA [] s.data.toList).map fun x=>⟨x.toArray⟩
theorem sN (c:UInt8):(c==(10:UInt8))=decide (c.toNat=10):=by
 rw[Bool.eq_iff_iff,beq_iff_eq,decide_eq_true_iff];exact⟨fun h=>by rw[h];rfl,fun h=>UInt8.toNat_inj.1 h⟩
theorem oQ:∀ (l acc:List UInt8),Lib.indexByte l 10= -1→spA acc l=[acc++l]
 |[],acc,_=>by simp[spA]
 |c::l,acc,h=>by
  unfold Lib.indexByte at h;rw[sN]at h;by_cases hc:c.toNat=10
  ·rw[decide_eq_true hc]at h;simp at h
  ·rw[decide_eq_false hc]at h;simp only[Bool.false_eq_true,if_false]at h;have h':Lib.indexByte l 10= -1:=by
    have:=Lib.indexByte_ge l 10;split at h
    ·rename_i e;exact beq_iff_eq.1 e
    ·omega
   rw[spA,if_neg hc,oQ l _ h'];simp
theorem py:∀ (l acc:List UInt8) (m:Nat),Lib.indexByte l 10=(m:Nat)→m<l.length∧spA acc l=(acc++l.take m)::spA [] (l.drop (m+1))∧l.count 10=(l.drop (m+1)).count 10+1
 |[],_,m,h=>by simp only[Lib.indexByte]at h;omega
 |c::l,acc,m,h=>by
  unfold Lib.indexByte at h;rw[sN]at h;by_cases hc:c.toNat=10
  ·rw[decide_eq_true hc]at h;simp only[if_true]at h;have hm:m=0:=by omega
   subst hm;have e:c=10:=UInt8.toNat_inj.1 hc;refine⟨by simp, ?_, ?_⟩
   ·rw[spA,if_pos hc];simp
   ·rw[e];simp
  ·rw[decide_eq_false hc]at h;simp only[Bool.false_eq_true,if_false]at h;split at h
   ·omega
   ·rename_i du
    obtain⟨k,rfl⟩:∃ k,m=k+1:=⟨m - 1,by
     have:=Lib.indexByte_ge l 10;have h3:Lib.indexByte l 10≠ -1:=fun e=>du (by rw[e];rfl);omega⟩
    obtain⟨h1,h2,h3⟩:=py l (acc++[c]) k (by omega);have p6:(c==(10:UInt8))=false:=by rw[sN,decide_eq_false hc]
    refine⟨by simp;omega, ?_, ?_⟩
    ·rw[spA,if_neg hc,h2];simp
    ·rw[List.count_cons,p6,h3];simp
theorem oa:∀ (l acc:List UInt8),(spA acc l).length=l.count 10+1
 |[],_=>rfl
 |c::l,acc=>by
  unfold spA;rw[List.count_cons,sN];by_cases hc:c.toNat=10
  ·rw[if_pos hc,decide_eq_true hc,List.length_cons,oa l];simp
  ·rw[if_neg hc,decide_eq_false hc,oa l];simp
theorem yW (s:ByteArray):(spS s).length=s.data.toList.count 10+1:=by rw[spS,List.length_map,oa]
theorem J1:∀ l:List UInt8,0<l.count 10→∃ m:Nat,Lib.indexByte l 10=(m:Nat):=fun l h=>by
 have:=Lib.indexByte_ge l 10;by_cases e:Lib.indexByte l 10= -1
 ·have h2:=oQ l [] e;have h3:=oa l [];rw[h2]at h3;simp at h3;omega
 ·exact⟨(Lib.indexByte l 10).toNat,by omega⟩
end Pl
theorem xL (s:ByteArray) (c:UInt8) (w:World):
  Calls Tryz.prog 126 #[.string s,.int .u8 c.toNat] w fun e w'=>e=.returned (.int .i64 (Lib.indexByte s.data.toList c))∧w=w':=by
 have hc:((c.toNat:Int)).toNat.toUInt8=c:=by simp
 have HE:=uh hc;clear hc;go_enter Tryz.func126,Tryz.ntmps126
 go_wp2;rw[run_callFunc_extern Tryz.func134 (by kernel_rfl) (by kernel_rfl) (by kernel_rfl) (e:=Extern.BytealgIndexByte.indexByte) (by kernel_rfl),Lib.run_indexByteString];simp only[Result.andThen];rw[Oper.upon_value];rw[HE.out];go_wp2;go_ret;exact⟨rfl,rfl⟩
theorem GI (s:ByteArray) (w:World):
  Calls Tryz.prog 91 #[.string s,.string {data:=#[10]}] w fun e w'=>e=.returned (.int .i64 (Lib.indexByte s.data.toList 10))∧w=w':=by
 obtain⟨R,hR⟩:∃ R,R=Lib.indexByte s.data.toList 10:=⟨_,rfl⟩
 have RP:=uh (xL s 10 w);rw[← hR]at RP;have HC:Hid (Calls Tryz.prog 126 #[.string s,.int .u8 10] w fun e w'=>e=.returned (.int .i64 R)∧w=w'):=RP.out;have HR:=uh hR;rw[← hR];clear hR RP;go_enter Tryz.func91,Tryz.ntmps91
 cases hq:([10]==s.toList)
 ·go_wp2_with (first|(go_at_call 113;go_in)|(go_at_call 126;refine HC.out.mono ?_;rintro e w' ⟨rfl,rfl⟩))
  go_ret;exact⟨rfl,rfl⟩
 ·have HE:Hid (R=0):=by
   show R=0;have e:=beq_iff_eq.1 hq;rw[HR.out,← Pl.tl,← e];rfl
  go_wp2_with (first|(go_at_call 113;go_in)|(go_at_call 126;refine HC.out.mono ?_;rintro e w' ⟨rfl,rfl⟩))
  go_ret;exact⟨Pl.cU HE.out.symm,rfl⟩
theorem GJ (s:ByteArray) (w:World):
  Calls Tryz.prog 90 #[.string s,.string {data:=#[10]}] w fun e w'=>e=.returned (.int .i64 (s.data.toList.count 10:Nat))∧w=w':=by
 have HE:Hid ((((({data:=#[10]}:ByteArray)[0]'(by decide)).toNat:Int)).toNat.toUInt8=10):=rfl;go_enter Tryz.func90,Tryz.ntmps90
 go_wp2;rw[run_callFunc_extern Tryz.func112 (by kernel_rfl) (by kernel_rfl) (by kernel_rfl) (e:=Extern.BytealgCount.count) (by kernel_rfl),Lib.run_countString];simp only[Result.andThen];rw[Oper.upon_value];rw[HE.out];go_wp2;go_ret;exact⟨rfl,rfl⟩
theorem z5 (s:ByteArray) (w:World) (hs:s.size≤1048000):
  Calls Tryz.prog 68 #[.string s,.string {data:=#[10]},.int .i64 0,.int .i64 (-1)] w fun e w'=>∃ g,e=.returned (.slice (some ⟨g,0,none⟩) (Pl.spS s).length (Pl.spS s).length)∧w.heap.size≤g∧al w' g 9 ((Pl.spS s).map .string)∧Bel w w':=by
 obtain⟨n,hn⟩:∃ n,n=s.data.toList.count 10:=⟨_,rfl⟩
 have zG:(Pl.spS s).length=n+1:=by rw[Pl.yW,hn]
 have hns:n≤s.size:=by rw[hn,← Pl.aD];exact List.count_le_length
 have HC:=uh (GJ s w);rw[← hn]at HC;have HN:=uh hn;have je:=uh zG;rw[zG];clear zG hn;obtain⟨zs,I5,fz⟩:=GN (n+1) (by omega);have Rh:min ((n:Int)+1) ((s.size:Int)+1)=((n+1:Nat):Int):=by omega
 have Mv:=fz w;go_enter Tryz.func68,Tryz.ntmps68
 go_upto_region 8 with(go_at_call 90;refine HC.out.mono ?_;rintro e w' ⟨rfl,rfl⟩)
 have HB:Hid (Bel w (w.alloc (.cells zs 9))):=ae zR _;obtain⟨g,hg⟩:∃ g,g=w.heap.size:=⟨_,rfl⟩
 have HZ:Hid (w.heap.size≤g):=by show _≤_;omega
 have fU:Hid (al (w.alloc (.cells zs 9)) g 9 zs.toList):=by
  show al _ _ _ _;have q:=al.new w zs.toList 9 g hg;simpa using q
 have HZL:Hid (zs.toList.length=n+1):=by show _=_;rw[Array.length_toList,I5,Nat.mul_one]
 obtain⟨wa,aZ⟩:∃ wa,wa=w.alloc (.cells zs 9):=⟨_,rfl⟩
 rw[← aZ]at Mv HB fU;rw[← hg,show ((n+1:Nat):Int)=(n:Int)+1 by omega]at Mv;go_upto_region 11 with fail
 rw[← aZ,← hg];clear Mv fz Rh;clear aZ hg;go_loopw [0,10] (fun v0 v10 wr=>∃ (i:Nat) (r:ByteArray) (cs:List Value),v0=.string r∧v10=.int .i64 i∧i≤n∧r.size≤s.size∧r.data.toList.count 10+i=n∧cs.length=n+1∧al wr g 9 cs∧(∃ done:List ByteArray,done.length=i∧cs.take i=done.map .string∧Pl.spS s=done++Pl.spS r)∧Bel w wr) (fun _ i _=>n - (intOf i).toNat)
 case atStart=>exact⟨0,s,zs.toList,rfl,rfl,zN,zE,HN.out.symm,HZL.out,fU.out,⟨[],rfl,rfl,rfl⟩,HB.out⟩
 case round=>
  obtain⟨i,r,cs,rfl,rfl,hi,hr,IB,eN,ic,⟨done,hd,wJ,MM⟩,hW⟩:=hrel;have Pj:=uh ic;have HW:=uh hW;have HD:=uh (And.intro hd (And.intro wJ MM));have qi:=uh IB;have nK:=uh eN;have bd:i<cs.length:=by omega
  obtain⟨y,hy⟩:∃ y,cs[i]? =some y:=⟨cs[i],by simp[bd]⟩
  have gV:=ic.get i y hy;have tP:=ic.own.lt;have JN:=ic.own.frozen i;have hwi:IntKind.i64.wrap ((i:Int)+1)=(i:Int)+1:=by simp[IntKind.wrap,IntKind.bits,IntKind.signed];omega
  clear ic hW hd wJ MM IB eN;by_cases gG:i<n
  ·obtain⟨m,hm⟩:=Pl.J1 r.data.toList (by have:=qi.out;omega);obtain⟨fK,Ca,yG⟩:=Pl.py r.data.toList [] m hm;have Ob:=uh (fun W=>GI r W);rw[hm]at Ob;rw[Pl.aD]at fK;have Bi:Hid (Pl.spS r=r.extract 0 m::Pl.spS (r.extract (m+1) r.size)):=by
    show _=_;unfold Pl.spS;rw[Ca,List.map_cons,List.nil_append];congr 1
    ·rw[← Pl.back (r.extract 0 m),Pl.gu];simp
    ·rw[Pl.gu];congr 2;rw[List.take_of_length_le (by rw[List.length_drop,Pl.aD];omega)]
   have E6:Hid ((r.extract (m+1) r.size).data.toList.count 10+(i+1)=n):=by
    show _=_;rw[Pl.gu,List.take_of_length_le (by rw[List.length_drop,Pl.aD];omega)];have:=qi.out;omega
   have oJ:(0:Int)≤(m:Int):=by omega
   have ns:(m:Int)≤(r.size:Int):=by omega
   have tL:(m:Int)+1≤(r.size:Int):=by omega
   have wN:¬ ((m:Int)<0):=by omega
   have hm4:(0:Int)≤(m:Int)+1:=by omega
   have gF:(0:Int)≤(i:Int):=by omega
   have eO:(i:Int)<((n+1:Nat):Int):=by omega
   have hrs:r.size≤1048000:=by omega
   clear hm Ca yG;go_wp2_with (go_at_call 91;refine(Ob.out _).mono ?_;rintro e w' ⟨rfl,rfl⟩)
   go_roundw
   case rel=>
    refine⟨i+1,r.extract (m+1) r.size,cs.set i (.string (r.extract 0 m)),rfl,by go_num,by omega, ?_,E6.out, ?_,Pj.out.set i _ bd,⟨done++[r.extract 0 m], ?_, ?_, ?_⟩, ?_⟩
    ·rw[ByteArray.size_extract];omega
    ·rw[List.length_set];exact nK.out
    ·rw[List.length_append,HD.out.1];rfl
    ·have q:(cs.set i (.string (r.extract 0 m))).take (i+1)=cs.take i++[.string (r.extract 0 m)]:=by
      rw[List.take_succ_eq_append_getElem (by rw[List.length_set];exact bd),List.take_set_of_le zE,List.getElem_set_self]
     rw[q,HD.out.2.1,List.map_append];rfl
    ·rw[HD.out.2.2,Bi.out,List.append_assoc];rfl
    ·exact HW.out.setCell (p:=⟨g,i,none⟩) HZ.out _
   case measure=>simp[intOf];omega
  ·have RT:i=n:=by omega
   subst RT;have lL:Lib.indexByte r.data.toList 10= -1:=by
    have h0:r.data.toList.count 10=0:=by have:=qi.out;omega
    by_cases q:Lib.indexByte r.data.toList 10= -1
    ·exact q
    ·have:=Lib.indexByte_ge r.data.toList 10;obtain⟨_,_,h3⟩:=Pl.py r.data.toList [] (Lib.indexByte r.data.toList 10).toNat (by omega);omega
   have Bi:Hid (Pl.spS r=[r]):=by
    show _=_;unfold Pl.spS;rw[Pl.oQ _ _ lL,List.nil_append,List.map_cons,List.map_nil,Pl.back]
   have gF:(0:Int)≤(i:Int):=by omega
   have eO:(i:Int)<((i+1:Nat):Int):=by omega
   have HF:Hid (al (wr.setCell ⟨g,i,none⟩ (.string r)) g 9 ((Pl.spS s).map .string)):=by
    show al _ _ _ _;have q:=Pj.out.set i (.string r) bd;have e:cs.set i (.string r)=(Pl.spS s).map .string:=by
     rw[HD.out.2.2,Bi.out,List.map_append,← HD.out.2.1];apply List.ext_getElem?;intro j;rw[List.getElem?_set];have eN:=nK.out;have qK:(cs.take i).length=i:=by rw[List.length_take];omega
     by_cases hj:i=j
     ·subst hj;rw[if_pos rfl,if_pos bd,List.getElem?_append_right (by omega),qK,Nat.sub_self];rfl
     ·rw[if_neg hj];by_cases Ji:j<i
      ·rw[List.getElem?_append_left (by omega),List.getElem?_take,if_pos Ji]
      ·rw[List.getElem?_append_right (by omega),qK,List.getElem?_eq_none (by omega)];rw[List.getElem?_eq_none (by simp;omega)]
    rw[← e];exact q
   clear lL;go_wp2;go_ret;exact⟨g,rfl,HZ.out,HF.out,HW.out.setCell (p:=⟨g,i,none⟩) HZ.out _⟩
theorem J7 (s:ByteArray) (w:World) (hs:s.size≤1048000):
  Calls Tryz.prog 39 #[.string s,.string {data:=#[10]}] w fun e w'=>∃ g,e=.returned (.slice (some ⟨g,0,none⟩) (Pl.spS s).length (Pl.spS s).length)∧w.heap.size≤g∧al w' g 9 ((Pl.spS s).map .string)∧Bel w w':=by
 have HC:=uh (z5 s w hs);go_enter Tryz.func39,Tryz.ntmps39
 go_wp2_with (go_at_call 68;refine HC.out.mono ?_;rintro e w' ⟨g,rfl,h1,h2,h3⟩)
 go_ret;exact⟨g,rfl,h1,h2,h3⟩
namespace Pl
theorem sR:∀ (l acc:List UInt8),spA acc l≠ []
 |[],_=>by simp[spA]
 |c::l,acc=>by
  unfold spA;split
  ·simp
  ·exact sR l _
theorem xw:∀ (l acc:List UInt8),iS acc l=if ((spA acc l).getLast (sR l acc)).isEmpty then (spA acc l).dropLast else spA acc l
 |[],acc=>by
  simp only[iS,spA,List.getLast_singleton,List.dropLast_singleton]
 |c::l,acc=>by
  by_cases hc:c.toNat=10
  ·have e:spA acc (c::l)=acc::spA [] l:=by rw[spA,if_pos hc]
   have ih:=xw l [];have du:=sR l [];rw[iS,if_pos hc,ih];simp only[e];rw[List.getLast_cons du,List.dropLast_cons_of_ne_nil du];split<;>rfl
  ·have e:spA acc (c::l)=spA (acc++[c]) l:=by rw[spA,if_neg hc]
   rw[iS,if_neg hc,xw l (acc++[c])];simp only[e]
theorem AD (s:ByteArray):∃ m,(spS s).length=m+1∧(((spS s).getD m aJ).size=0→fM s=(spS s).take m)∧(((spS s).getD m aJ).size≠0→fM s=spS s):=by
 have du:=sR s.data.toList [];have hl:0<(spA [] s.data.toList).length:=List.length_pos_iff.2 du;refine⟨(spA [] s.data.toList).length - 1,by rw[spS,List.length_map];omega, ?_, ?_⟩
 all_goals
  intro h;have e:(spS s).getD ((spA [] s.data.toList).length - 1) aJ=⟨((spA [] s.data.toList).getLast du).toArray⟩:=by
   rw[spS,List.getD_eq_getElem?_getD,List.getElem?_map,List.getLast_eq_getElem,List.getElem?_eq_getElem (by omega)];rfl
  rw[e]at h;unfold fM;rw[xw]
 ·have hz:((spA [] s.data.toList).getLast du).isEmpty=true:=by
   have hh:((spA [] s.data.toList).getLast du).length=0:=h;rw[List.isEmpty_iff,← List.length_eq_zero_iff];exact hh
  rw[if_pos hz,spS,List.dropLast_eq_take,List.map_take]
 ·have hz:((spA [] s.data.toList).getLast du).isEmpty=false:=by
   have hh:((spA [] s.data.toList).getLast du).length≠0:=h;rw[List.isEmpty_eq_false_iff];intro q;rw[q]at hh;exact hh rfl
  rw[if_neg (by rw[hz];simp)];rfl
theorem Cw {p:Option Addr} {a b c:Nat} {z:Int} (h:b=a) (hz:z=(b:Int)):Ending.returned (.tuple #[.slice p a c,.bool (decide (z≤400))])=.returned (.tuple #[.slice p b c,.bool (decide (b≤400))]):=by
 subst h;subst hz;congr 6;rw[Bool.eq_iff_iff,decide_eq_true_iff,decide_eq_true_iff];omega
end Pl
theorem Ej (W:World):∀ xs:List ByteArray,Raw W (bf xs.length [.s]) (txD xs) (xs.map .string)
 |[]=> .nil
 |x::xs=>by rw[List.length_cons,bW];exact .s x (Ej W xs)
theorem pM {W:World} {g m c:Nat} {L:List ByteArray} (h:al W g 9 (L.map .string)) (hm:m≤L.length) (hl:L.length≤c) (hc:c≤1048576):Raw W bB [.row m (txD (L.take m))] [.slice (some ⟨g,0,none⟩) m c]:=by
 have e:(L.take m).length=m:=by rw[List.length_take];omega
 have q:=Ej W (L.take m);rw[e]at q;refine .row 9 [.s] g 0 m c _ _ h.own.lt ⟨by unfold maxLen;omega,by omega⟩ ?_ q .nil;intro j v hv;refine h.at_ j v ?_;rw[List.getElem?_map,List.getElem?_take]at hv;rw[List.getElem?_map];split at hv
 ·exact hv
 ·cases hv
def vp (s:ByteArray) (e:Ending) (W:World):Prop:=
 if 20000<s.size then e=.returned (.tuple #[.slice none 0 0,.bool false])
 else ∃ g c,e=.returned (.tuple #[.slice (some ⟨g,0,none⟩) (Pl.fM s).length c,.bool (decide ((Pl.fM s).length≤400))])∧Raw W bB [.row (Pl.fM s).length (txD (Pl.fM s))] [.slice (some ⟨g,0,none⟩) (Pl.fM s).length c]
theorem mX (s:ByteArray) (w:World) (hs:s.size≤maxLen):
  Calls Tryz.prog 20 #[.string s] w fun e w'=>vp s e w'∧Bel w w':=by
 unfold vp;by_cases h0:20000<s.size
 ·have d0:((20000:Int)<(s.size:Int)):=by omega
  simp only[if_pos h0];unfold maxLen at hs;go_enter Tryz.func20,Tryz.ntmps20
  go_wp2;go_ret2;exact⟨rfl,zR⟩
 simp only[if_neg h0];have d0:¬ ((20000:Int)<(s.size:Int)):=by omega
 have HC:=uh (J7 s w (by omega));unfold maxLen at hs;obtain⟨m,hm,hz,B5⟩:=Pl.AD s;have HZ:=uh hz;have Mq:=uh B5;have HM:=uh hm;have hmb:m≤20000:=by
  have h1:=Pl.yW s;have h2:s.data.toList.count 10≤s.data.toList.length:=List.count_le_length;rw[Pl.aD]at h2;omega
 clear hz B5;rw[hm]at HC;clear hm;go_enter Tryz.func20,Tryz.ntmps20
 go_wp2_with fail
 refine HC.out.mono ?_;rintro e w1 ⟨g,rfl,hg,ic,hb⟩;have fU:=uh ic;have HB:=uh hb;obtain⟨x,hx⟩:∃ x,x=(Pl.spS s).getD m Pl.aJ:=⟨_,rfl⟩
 rw[← hx]at HZ Mq;have fK:m<(Pl.spS s).length:=by have:=HM.out;omega
 have hc:w1.cell? ⟨g,m,none⟩=some (.string x):=by
  refine ic.get m _ ?_;rw[List.getElem?_map,hx,List.getD_eq_getElem?_getD,List.getElem?_eq_getElem fK];rfl
 have tP:=ic.own.lt;clear ic hb HC hx;have oJ:(0:Int)≤(m:Int):=by omega
 have ns:(m:Int)<((m+1:Nat):Int):=by omega
 by_cases oy:x.size=0
 ·have hxe:x=⟨#[]⟩:=by
   cases x with
   |mk a=>have:a.size=0:=oy;rw[Array.size_eq_zero_iff]at this;rw[this]
  have HL:=uh (HZ.out oy);subst hxe;have BY:Hid ((Pl.fM s).length=m):=by show _=_;rw[HL.out,List.length_take];omega
  have g9:Hid (Raw w1 bB [.row (Pl.fM s).length (txD (Pl.fM s))] [.slice (some ⟨g,0,none⟩) (Pl.fM s).length (m+1)]):=by
   show Raw _ _ _ _;rw[BY.out,HL.out];exact pM fU.out (by omega) (by have:=HM.out;omega) (by omega)
  clear oy;go_wp2;go_ret2;exact⟨⟨g,m+1,Pl.Cw BY.out (by rw[BY.out];try rfl),g9.out⟩,HB.out⟩
 ·have HL:=uh (Mq.out oy);have hxe:(x.toList==[])=false:=by
   rw[beq_eq_false_iff_ne,Pl.tl];intro q;apply oy;have:=congrArg List.length q;simpa using this
  have BY:Hid ((Pl.fM s).length=m+1):=by show _=_;rw[HL.out];exact HM.out
  have g9:Hid (Raw w1 bB [.row (Pl.fM s).length (txD (Pl.fM s))] [.slice (some ⟨g,0,none⟩) (Pl.fM s).length (m+1)]):=by
   show Raw _ _ _ _;have q:=pM (m:=m+1) (c:=m+1) fU.out (by omega) (by have:=HM.out;omega) (by omega);rw[List.take_of_length_le (by have:=HM.out;omega)]at q;rw[BY.out,HL.out];exact q
  clear oy;go_wp2;go_ret2;exact⟨⟨g,m+1,Pl.Cw BY.out (by rw[BY.out];try rfl),g9.out⟩,HB.out⟩
namespace Pl
def aP (x:ByteArray):List ByteArray:=(bE x.data.toList 0).getD []
def bX (x:ByteArray):Bool:=(bE x.data.toList 0).isNone
theorem j6 {x:ByteArray} (h:(aP x).length=0) (hb:bX x=false):bE x.data.toList 0=some []:=by
 unfold aP at h;unfold bX at hb;cases hc:bE x.data.toList 0 with
 |none=>rw[hc]at hb;cases hb
 |some ws=>rw[hc]at h;exact congrArg some (List.eq_nil_of_length_eq_zero h)
def blank (ls:List ByteArray) (i j:Nat):Prop:=∀ m,i≤m→m<j→bE (ls.getD m aJ).data.toList 0=some []
theorem blank.step {ls:List ByteArray} {i j:Nat} (h:blank ls i j) (hj:bE (ls.getD j aJ).data.toList 0=some []):blank ls i (j+1):=fun m h1 h2=>by
 by_cases e:m=j
 ·rw[e];exact hj
 ·exact h m h1 (by omega)
end Pl
theorem QR (x:ByteArray) (W:World) (nw:Nat) (QW:nw≤W.heap.size) (hs:x.size≤1048576):
  Calls Tryz.prog 98 #[.string x] W fun e W'=>∃ a c F,e=.returned (.agg #[.slice a (Pl.aP x).length c,.bool (Pl.bX x)])∧Rep W' false bB F [.row (Pl.aP x).length (txD (Pl.aP x))] [.slice a (Pl.aP x).length c]∧F.Nodup∧(∀ b∈F,nw≤b)∧Bel W W':=by
 refine(vu x W hs).mono ?_;rintro e W' ⟨c,F,rfl,hr,jl,qh,hb⟩;have hd:xG x.data.toList=[.row (Pl.aP x).length (txD (Pl.aP x)),.b (Pl.bX x)]:=by
  unfold xG Pl.aP Pl.bX;cases Pl.bE x.data.toList 0<;>rfl
 rw[hd]at hr;obtain⟨F0,v0,rfl,rfl,h0⟩:=uZ hr;obtain⟨a,c,e⟩:=h0.raw.bm;subst e;rw[List.append_nil]at jl qh;exact⟨a,c,F0,rfl,h0,jl,fun b hb=>Nat.le_trans QW (qh b hb),hb⟩
def JR (rb:Nat) (W:World):Nat:=match W.cell? ⟨rb,2,none⟩ with
 |some (.int _ n)=>n.toNat
 |_=>0
theorem yY {rb:Nat} {W:World} {u:TypeId} {x y:Value} {n:Int} {l:List Value} (h:al W rb u (x::y::.int .i64 n::l)):JR rb W=n.toNat:=by
 unfold JR;rw[h.get 2 _ rfl]
theorem sO (rb:Nat) (at_ code:Int) (w:World) (h:w.cell? ⟨rb,2,none⟩=some (.int .i64 at_)) (_:rb<w.heap.size):
  Calls Tryz.prog 99 #[.pointer (some ⟨rb,0,none⟩),.int .i64 code] w fun e w'=>e=.returned (.iface 76 (.agg #[.int .i64 at_,.int .i64 code]))∧w=w':=by
 go_enter Tryz.func99,Tryz.ntmps99
 go_wp2;go_ret;exact⟨rfl,rfl⟩
theorem Nj (rb:Nat) (ws:List ByteArray) (v:Value) (w:World) (h:w.cell? ⟨rb,3,none⟩=some v) (_:rb<w.heap.size) (hr:Raw w bB [.row ws.length (txD ws)] [v]):
  Calls Tryz.prog 78 #[.pointer (some ⟨rb,0,none⟩)] w fun e w'=>e=.returned (.bool (decide (ws.length=1)&&((ws.getD 0 Pl.aJ).toList==[101,110,100])))∧w=w':=by
 obtain⟨a,c,ev⟩:=hr.bm;subst ev;by_cases h1:ws.length=1
 ·rcases dS hr with⟨e0,_⟩|⟨p,o,c',hv,hp,_,aO⟩
  ·omega
  injection hv with g1 _ g3
  subst g1;subst g3;have y0:w.cell? ⟨p,o,none⟩=some (.string (ws.getD 0 Pl.aJ)):=by simpa using aO 0 (by omega)
  obtain⟨y,hy⟩:∃ y,y=ws.getD 0 Pl.aJ:=⟨_,rfl⟩
  rw[← hy]at y0 ⊢;rw[decide_eq_true h1,Bool.true_and];clear aO hy;rw[h1]at h;clear hr;have hw:Hid (ws.length=1):=h1;clear h1;go_enter Tryz.func78,Tryz.ntmps78
  go_wp2;go_ret;exact⟨rfl,rfl⟩
 ·rw[decide_eq_false h1,Bool.false_and];have d0:((ws.length:Int)==1)=false:=by simp;omega
  clear hr h1;go_enter Tryz.func78,Tryz.ntmps78
  go_wp2;go_ret;exact⟨rfl,rfl⟩
theorem Kh (L:List Pl.Ln) (v:Value) (key:ByteArray) (w:World) (h:Raw w bF [bT L] [v]) (zG:L.length≤1048576):
  Calls Tryz.prog 102 #[v,.string key] w fun e w'=>e=.returned (.int .i64 (Pl.aI L key:Nat))∧Bel w w':=by
 have HH:=uh h;obtain⟨a,c,ev⟩:=h.bm;subst ev;clear h;go_enter Tryz.func102,Tryz.ntmps102
 go_wp2;go_loopw [5,10] (fun vc vi wr=>∃ k m:Nat,k≤L.length∧m≤k∧vi=.int .i64 k∧vc=.int .i64 m∧Pl.aI (L.take k) key=m∧Bel w wr) (fun _ vi _=>L.length - (intOf vi).toNat)
 case atStart=>exact⟨0,0,zN,zE,rfl,rfl,rfl,zR⟩
 case round=>
  obtain⟨k,m,hk,fz,rfl,rfl,hc,hW⟩:=hrel;have HC:=uh hc;have HW:=uh hW;clear hc hW;by_cases bd:k<L.length
  rotate_left
  ·obtain rfl:k=L.length:=by omega
   have HE:Hid (m=Pl.aI L key):=by show m=_;rw[← HC.out,List.take_length]
   go_wp2;go_ret;exact⟨by rw[← HE.out];rfl,HW.out⟩
  rcases cE HH.out with⟨e0,_⟩|⟨p,o,c',hv,hp,_,aO⟩
  ·omega
  injection hv with g1 _ g3
  subst g1;subst g3;obtain⟨ax,cx,hg,_⟩:=aO k bd;obtain⟨x,hx⟩:∃ x,x=L.getD k Pl.aK:=⟨_,rfl⟩
  rw[← hx]at hg;have fw:=aB hg hp HW.out;have x0:wr.cell? ⟨p,o+k*2,none⟩=some (.string x.key):=aE fw 0 _ rfl;have x1:wr.cell? ⟨p,o+k*2+1,none⟩=some (.slice ax x.ws.length cx):=aE fw 1 _ rfl;have ME:p<wr.heap.size:=zL hp HW.out.size;have ec:(0:Int)≤(k:Int):=by omega
  have dP:(k:Int)<(L.length:Int):=by omega
  have LL:IntKind.i64.wrap ((m:Int)+1)=(m:Int)+1:=fI _ (by omega) (by omega);have HN:Hid (Pl.aI (L.take (k+1)) key=if x.key.toList==key.toList then m+1 else m):=by
   show _=_;have e:L.getD k Pl.aK=L[k]:=by simp[bd]
   unfold Pl.aI at HC ⊢;rw[List.take_succ_eq_append_getElem bd,List.countP_append,HC.out,hx,e];have c:List.countP (fun x=>Pl.dD x.key key) [L[k]]=if Pl.dD L[k].key key then 1 else 0:=by
    rw[List.countP_cons,List.countP_nil];simp
   rw[c];unfold Pl.dD;cases L[k].key.toList==key.toList<;>rfl
  clear aO hg fw hx;cases hq:(x.key.toList==key.toList)
  ·rw[hq]at HN;go_wp2;go_roundw
   case rel=>exact⟨k+1,m,by omega,by omega,by go_num,rfl,HN.out,ae HW.out _⟩
   case measure=>simp[intOf];omega
  ·rw[hq]at HN;go_wp2;go_roundw
   case rel=>exact⟨k+1,m+1,by omega,by omega,by go_num,by go_num,HN.out,ae HW.out _⟩
   case measure=>simp[intOf];omega
def D2 (rb:Nat) (mv:Value) (la:Option Addr) (lc:Nat) (ls:List ByteArray) (k:Nat) (bv:Value) (op:Int) (w:World) (e:Ending) (w':World):Prop:=
 (∃ j,k≤j∧j<ls.length∧Pl.blank ls k j∧e=.returned (.bool true)∧∃ a c F,al w' rb 111 [mv,.slice la ls.length lc,.int .i64 ((j+1:Nat):Int),.slice a (Pl.aP (ls.getD j Pl.aJ)).length c,.bool (Pl.bX (ls.getD j Pl.aJ)),bv,.int .i64 op]∧Rep w' false bB F [.row (Pl.aP (ls.getD j Pl.aJ)).length (txD (Pl.aP (ls.getD j Pl.aJ)))] [.slice a (Pl.aP (ls.getD j Pl.aJ)).length c]∧F.Nodup∧(∀ b∈F,w.heap.size≤b)∧(Pl.bX (ls.getD j Pl.aJ)=true∨(Pl.aP (ls.getD j Pl.aJ)).length≠0)∧Marks (fun b=>b=rb) w w')∨
 (Pl.blank ls k ls.length∧e=.returned (.bool false)∧(∃ cw cb,al w' rb 111 [mv,.slice la ls.length lc,.int .i64 (ls.length:Nat),cw,.bool cb,bv,.int .i64 op])∧Marks (fun b=>b=rb) w w')
def VXa (rb:Nat) (p:Nat) (o:Nat) (lc:Nat) (i:Nat) (ls:List ByteArray):Nat→Value→World→Prop
 |0,vv,_|1,vv,_|4,vv,_|5,vv,_=>vv=.pointer (some ⟨rb,0,none⟩)
 |2,vv,_=>vv=.pointer (some ⟨rb,2,none⟩)
 |3,vv,_=>vv=.int .i64 (i:Int)
 |6,vv,_=>vv=.pointer (some ⟨rb,1,none⟩)
 |7,vv,_=>vv=.slice (some ⟨p,o,none⟩) ls.length lc
 |8,vv,_=>vv=.int .i64 (ls.length:Int)
 |9,vv,_=>vv=.bool true
 |_,_,_=>True
theorem DQ (rb:Nat) (p:Nat) (o:Nat) (lc:Nat) (i:Nat) (ls:List ByteArray):∀ jj vv W W',Bel W W'→VXa rb p o lc i ls jj vv W→VXa rb p o lc i ls jj vv W':=by
 intro jj vv W W' hb h;match jj with
 |0|1|2|3|4|5|6|7|8|9=>exact h
 |n+10=>exact trivial
def VXb (rb:Nat) (lc:Nat) (i:Nat) (la:Option Addr) (ls:List ByteArray):Nat→Value→World→Prop
 |0,vv,_|1,vv,_|4,vv,_|5,vv,_=>vv=.pointer (some ⟨rb,0,none⟩)
 |2,vv,_=>vv=.pointer (some ⟨rb,2,none⟩)
 |3,vv,_=>vv=.int .i64 (i:Int)
 |6,vv,_=>vv=.pointer (some ⟨rb,1,none⟩)
 |7,vv,_=>vv=.slice la ls.length lc
 |8,vv,_=>vv=.int .i64 (ls.length:Int)
 |9,vv,_=>vv=.bool false
 |_,_,_=>True
theorem Du (rb:Nat) (lc:Nat) (i:Nat) (la:Option Addr) (ls:List ByteArray):∀ jj vv W W',Bel W W'→VXb rb lc i la ls jj vv W→VXb rb lc i la ls jj vv W':=by
 intro jj vv W W' hb h;match jj with
 |0|1|2|3|4|5|6|7|8|9=>exact h
 |n+10=>exact trivial
def VXc (rb:Nat) (p:Nat) (o:Nat) (lc:Nat) (i:Nat) (nw:Nat) (ls:List ByteArray) (x:ByteArray):Nat→Value→World→Prop
 |0,vv,_|1,vv,_|2,vv,_|5,vv,_|6,vv,_|12,vv,_=>vv=.pointer (some ⟨rb,0,none⟩)
 |3,vv,_=>vv=.pointer (some ⟨rb,1,none⟩)
 |4,vv,_=>vv=.slice (some ⟨p,o,none⟩) ls.length lc
 |7,vv,_=>vv=.pointer (some ⟨rb,2,none⟩)
 |8,vv,_=>vv=.int .i64 (i:Int)
 |9,vv,_=>vv=.pointer (some ⟨p,o+i,none⟩)
 |10,vv,_=>vv=.string x
 |11,vv,W=>∃ a c F,vv=.agg #[.slice a (Pl.aP x).length c,.bool (Pl.bX x)]∧Rep W false bB F [.row (Pl.aP x).length (txD (Pl.aP x))] [.slice a (Pl.aP x).length c]∧F.Nodup∧∀ b∈F,nw≤b
 |13,vv,_=>vv=.pointer (some ⟨rb,3,none⟩)
 |_,_,_=>True
theorem C5 (rb:Nat) (p:Nat) (o:Nat) (lc:Nat) (i:Nat) (nw:Nat) (ls:List ByteArray) (x:ByteArray):∀ jj vv W W',Bel W W'→VXc rb p o lc i nw ls x jj vv W→VXc rb p o lc i nw ls x jj vv W':=by
 intro jj vv W W' hb h;match jj with
 |0|1|2|3|4|5|6|7|8|9|10|12|13=>exact h
 |11=>
  obtain⟨a,c,F,h1,h2,h3,h4⟩:=h;exact⟨a,c,F,h1,h2.later hb,h3,h4⟩
 |n+14=>exact trivial
theorem IZ (rb:Nat) (mv:Value) (la:Option Addr) (lc:Nat) (ls:List ByteArray) (k:Nat) (cw bv:Value) (cb:Bool) (op:Int) (w0 w:World) (eE:al w rb 111 [mv,.slice la ls.length lc,.int .i64 k,cw,.bool cb,bv,.int .i64 op]) (gJ:Raw w0 bB [.row ls.length (txD ls)] [.slice la ls.length lc]) (cd:Bel w0 w) (FI:w0.heap.size≤rb) (hk:k≤ls.length) (mP:∀ x∈ls,x.size≤1048576) (hlen:ls.length≤1048576):
  Calls Tryz.prog 76 #[.pointer (some ⟨rb,0,none⟩)] w (D2 rb mv la lc ls k bv op w):=by
 have Ig:=uh eE;have ie:=uh gJ;have cL:=uh cd;have vW:=uh FI;have qa:=uh mP;have g9:Hid (rb<w.heap.size):=eE.own.lt;clear eE gJ cd FI mP;go_enter Tryz.func76,Tryz.ntmps76
 go_wp2_with fail
 go_loopw [2] (fun v2 wr=>v2=.bool false∧∃ (i:Nat) (cw:Value) (cb:Bool),k≤i∧i≤ls.length∧Pl.blank ls k i∧al wr rb 111 [mv,.slice la ls.length lc,.int .i64 i,cw,.bool cb,bv,.int .i64 op]∧Marks (fun b=>b=rb) w wr) (fun _ wr=>ls.length - JR rb wr)
 case atStart=>exact⟨rfl,k,cw,cb,zE,hk,fun m h1 h2=>by omega,Ig.out,Marks.refl _ _⟩
 case round=>
  obtain⟨rfl,i,cw,cb,hki,hil0,vX,eE,fz⟩:=hrel;have jE:=uh eE;have Hq:=uh vX;have qn:=uh fz;have nC:Hid (rb<wr.heap.size):=eE.own.lt;have mQ:Hid (Bel w0 wr):=fz.below (fun b e=>by rw[e];exact vW.out) cL.out;clear eE vX fz;by_cases bd:i<ls.length
  rotate_left
  ·have HIE:Hid (i=ls.length):=by show _=_;omega
   have nt:¬ ((i:Int)<(ls.length:Int)):=by omega
   go_upto_region 1 with fail
   refine RY.cA wr zR (VXb rb lc i la ls) (Du _ _ _ _ _) (by kernel_rfl) (by kernel_rfl) (by kernel_rfl) (by kernel_rfl) ?_ ?_
   ·intro ii o' ho a X hX hk hd;have zrb:=jE.out.later hX;have zrbl:=zrb.own.lt;match ii,ho with
    |0,rfl|4,rfl=>
     exact RY.p (.pointer (some ⟨rb,0,none⟩)) (by simp[execOp,go_sem,RY.K hk 0 (.pointer (some ⟨rb,0,none⟩))])
    |1,rfl=>
     exact RY.p (.pointer (some ⟨rb,0,none⟩)) (by simp[execOp,go_sem,RY.E hd 0 3])
    |2,rfl=>
     exact RY.p (.pointer (some ⟨rb,2,none⟩)) (by simp[execOp,go_sem,RY.E hd 1 4])
    |3,rfl=>
     have e5:=RY.E hd 2 5;have ycl_:=zrb.get 2 _ rfl;exact RY.p (.int .i64 (i:Int)) (by simp[execOp,go_sem,e5,ycl_])
    |5,rfl=>
     exact RY.p (.pointer (some ⟨rb,0,none⟩)) (by simp[execOp,go_sem,RY.E hd 4 7])
    |6,rfl=>
     exact RY.p (.pointer (some ⟨rb,1,none⟩)) (by simp[execOp,go_sem,RY.E hd 5 8])
    |7,rfl=>
     have e9:=RY.E hd 6 9;have ycl_:=zrb.get 1 _ rfl;exact RY.p (.slice la ls.length lc) (by simp[execOp,go_sem,e9,ycl_])
    |8,rfl=>
     exact RY.p (.int .i64 (ls.length:Int)) (by simp[go_sem,RY.E hd 7 10])
    |9,rfl=>
     exact RY.p (.bool false) (by simp[execOp,go_sem,RY.E hd 3 6,RY.E hd 8 11,nt])
    |n+10,ho=>simp at ho
   intro X vs hX bg;have q12:vs 12=_:=bg 9 _ 12 rfl rfl;simp only[RY.aC,Act.put,List.setIfInBounds_toArray,List.set_cons_zero,List.set_cons_succ];rw[q12];generalize vs 3=s3,vs 4=s4,vs 5=s5,vs 6=s6,vs 7=s7,vs 8=s8,vs 9=s9,vs 10=s10,vs 11=s11;clear bg q12;have jk:=Hq.out;have Rw:=jE.out.later hX;rw[HIE.out]at jk Rw;have H9:=uh (And.intro jk Rw);clear jk Rw;go_wp2;go_ret;exact Or.inr ⟨H9.out.1,rfl,⟨cw,cb,H9.out.2⟩,qn.out.trans (Marks.aG _ hX)⟩
  ·rcases dS ie.out with⟨e0,_⟩|⟨p,o,c',hv,hp,_,aO⟩
   ·omega
   injection hv with g1 _ g3
   subst g1;subst g3;have nt:(i:Int)<(ls.length:Int):=by omega
   have gF:(0:Int)≤(i:Int):=by omega
   obtain⟨x,hx⟩:∃ x,x=ls.getD i Pl.aJ:=⟨_,rfl⟩
   have wM:=uh hx;have y0:=aO i bd;rw[← hx]at y0;have fg:Hid (wr.rangeAt p (o+i) [.string x]):=by
    show World.rangeAt _ _ _ _;intro j v hv;cases j with
    |zero=>injection hv with hv;subst hv;exact(mQ.out.cell (p:=⟨p,o+i,none⟩) hp).trans y0
    |succ j=>cases hv
   have fB:Hid (p<wr.heap.size):=zL hp mQ.out.size;have wu:Hid (x.size≤1048576):=by
    have e:ls.getD i Pl.aJ=ls[i]:=by simp[bd]
    rw[hx,e];exact qa.out _ (List.getElem_mem bd)
   clear aO hx y0;go_upto_region 1 with fail
   refine RY.cA wr zR (VXa rb p o lc i ls) (DQ _ _ _ _ _ _) (by kernel_rfl) (by kernel_rfl) (by kernel_rfl) (by kernel_rfl) ?_ ?_
   ·intro ii o' ho a X hX hk hd;have zrb:=jE.out.later hX;have zrbl:=zrb.own.lt;match ii,ho with
    |0,rfl|4,rfl=>
     exact RY.p (.pointer (some ⟨rb,0,none⟩)) (by simp[execOp,go_sem,RY.K hk 0 (.pointer (some ⟨rb,0,none⟩))])
    |1,rfl=>
     exact RY.p (.pointer (some ⟨rb,0,none⟩)) (by simp[execOp,go_sem,RY.E hd 0 3])
    |2,rfl=>
     exact RY.p (.pointer (some ⟨rb,2,none⟩)) (by simp[execOp,go_sem,RY.E hd 1 4])
    |3,rfl=>
     have e5:=RY.E hd 2 5;have ycl_:=zrb.get 2 _ rfl;exact RY.p (.int .i64 (i:Int)) (by simp[execOp,go_sem,e5,ycl_])
    |5,rfl=>
     exact RY.p (.pointer (some ⟨rb,0,none⟩)) (by simp[execOp,go_sem,RY.E hd 4 7])
    |6,rfl=>
     exact RY.p (.pointer (some ⟨rb,1,none⟩)) (by simp[execOp,go_sem,RY.E hd 5 8])
    |7,rfl=>
     have e9:=RY.E hd 6 9;have ycl_:=zrb.get 1 _ rfl;exact RY.p (.slice (some ⟨p,o,none⟩) ls.length lc) (by simp[execOp,go_sem,e9,ycl_])
    |8,rfl=>
     exact RY.p (.int .i64 (ls.length:Int)) (by simp[go_sem,RY.E hd 7 10])
    |9,rfl=>
     exact RY.p (.bool true) (by simp[execOp,go_sem,RY.E hd 3 6,RY.E hd 8 11,nt])
    |n+10,ho=>simp at ho
   intro X vs hX bg;have q12:vs 12=_:=bg 9 _ 12 rfl rfl;simp only[RY.aC,Act.put,List.setIfInBounds_toArray,List.set_cons_zero,List.set_cons_succ];rw[q12];generalize vs 3=s3,vs 4=s4,vs 5=s5,vs 6=s6,vs 7=s7,vs 8=s8,vs 9=s9,vs 10=s10,vs 11=s11;clear bg q12;have RH:=jE;have PN:=uh (jE.out.later hX);have HMK2_:Hid (Marks (fun b=>b=rb) w X):=qn.out.trans (Marks.aG _ hX);replace jE:=PN
   replace qn:=HMK2_
   replace fg:=uh (aB fg.out fB.out hX)
   replace fB:Hid (p<X.heap.size):=zL fB.out hX.size
   replace nC:Hid (rb<X.heap.size):=zL nC.out hX.size
   obtain⟨wq,qL⟩:∃ wq,wq=X:=⟨_,rfl⟩
   rw[← qL]at jE qn fg fB nC ⊢;clear qL hX PN HMK2_;have Jr:=uh (fun (X:World) (hX:Bel wq X)=>QR x X wq.heap.size hX.size wu.out);go_upto_region 2 with fail
   refine RY.jS wq zR (VXc rb p o lc i wq.heap.size ls x) (C5 _ _ _ _ _ _ _ _) (fun _ W'=>∃ ca cc F,al W' rb 111 [mv,.slice (some ⟨p,o,none⟩) ls.length lc,.int .i64 (i:Int),.slice ca (Pl.aP x).length cc,.bool (Pl.bX x),bv,.int .i64 op]∧Rep W' false bB F [.row (Pl.aP x).length (txD (Pl.aP x))] [.slice ca (Pl.aP x).length cc]∧F.Nodup∧(∀ b∈F,w.heap.size≤b)∧Marks (fun b=>b=rb) w W') 14 12 (by kernel_rfl) (by kernel_rfl) (by kernel_rfl) (by kernel_rfl) rfl [11,13] (by kernel_rfl) (by kernel_rfl) _ rfl rfl (by kernel_rfl) ?_ ?_ ?_
   ·intro ii o' ho E2 a X hX hk hd;have zrb:=jE.out.later hX;have zrbl:=zrb.own.lt;match ii,ho with
    |0,rfl|1,rfl|5,rfl=>
     exact RY.p (.pointer (some ⟨rb,0,none⟩)) (by simp[execOp,go_sem,RY.K hk 0 (.pointer (some ⟨rb,0,none⟩))])
    |2,rfl=>
     exact RY.p (.pointer (some ⟨rb,0,none⟩)) (by simp[execOp,go_sem,RY.E1 hd 1 14])
    |3,rfl=>
     exact RY.p (.pointer (some ⟨rb,1,none⟩)) (by simp[execOp,go_sem,RY.E1 hd 2 15])
    |4,rfl=>
     have e16:=RY.E1 hd 3 16;have ycl_:=zrb.get 1 _ rfl;exact RY.p (.slice (some ⟨p,o,none⟩) ls.length lc) (by simp[execOp,go_sem,e16,ycl_])
    |6,rfl=>
     exact RY.p (.pointer (some ⟨rb,0,none⟩)) (by simp[execOp,go_sem,RY.E1 hd 5 18])
    |7,rfl=>
     exact RY.p (.pointer (some ⟨rb,2,none⟩)) (by simp[execOp,go_sem,RY.E1 hd 6 19])
    |8,rfl=>
     have e20:=RY.E1 hd 7 20;have ycl_:=zrb.get 2 _ rfl;exact RY.p (.int .i64 (i:Int)) (by simp[execOp,go_sem,e20,ycl_])
    |9,rfl=>
     exact RY.p (.pointer (some ⟨p,o+i,none⟩)) (by simp[execOp,go_sem,RY.E1 hd 4 17,RY.E1 hd 8 21,gF,nt])
    |10,rfl=>
     have e22:=RY.E1 hd 9 22;have ypl_:=zL fB.out hX.size;have ycl_:X.cell? ⟨p,o+i,none⟩=some (.string x):=by have q:=aE (aB fg.out fB.out hX) 0 _ rfl;simpa using q
     exact RY.p (.string x) (by simp[execOp,go_sem,e22,ycl_])
    |11,rfl=>
     have e23:=RY.E1 hd 10 23;refine Or.inr ⟨98,#[.string x],by simp[go_sem,e23],(Jr.out X hX).mono ?_⟩;rintro e W' ⟨a,c,F,rfl,h2,h3,h4,hb⟩;exact⟨_,rfl,hb,a,c,F,rfl,h2,h3,h4⟩
    |12,rfl=>
     exact RY.p (.pointer (some ⟨rb,0,none⟩)) (by simp[execOp,go_sem,RY.E1 hd 0 13])
    |13,rfl=>
     exact RY.p (.pointer (some ⟨rb,3,none⟩)) (by simp[execOp,go_sem,RY.E1 hd 12 25])
    |n+14,ho=>omega
   ·intro a X vals hX hk hV hd;obtain⟨ca,cc,F,e1,NY,jl,qh⟩:=hV 11 (by decide);have e2:a.eval (.tmp 24)=_:=(hd 11 _ 24 rfl rfl ⟨⟨11,.data⟩,by simp,rfl,rfl⟩ (by decide)).trans e1;have e3:a.eval (.tmp 26)=.pointer (some ⟨rb,3,none⟩):=(hd 13 _ 26 rfl rfl ⟨⟨13,.data⟩,by simp,rfl,rfl⟩ (by decide)).trans (hV 13 (by decide));have hO:=jE.out.later hX;have cp:X.there rb 3 2:=aR hO.own _ _ (by simp);refine⟨X.setCells rb 3 [.slice ca (Pl.aP x).length cc,.bool (Pl.bX x)],RY.dW _ _ _ rfl e3 e2 cp (by kernel_rfl) (by simp[Value.oneCell']),ca,cc,F, ?_, ?_,jl, ?_, ?_⟩
    ·exact hO.QL (x:=[mv,.slice (some ⟨p,o,none⟩) ls.length lc,.int .i64 (i:Int)]) (y:=[cw,.bool cb]) (z:=[bv,.int .i64 op]) [.slice ca (Pl.aP x).length cc,.bool (Pl.bX x)] rfl
    ·exact NY.bo (aM (S:=fun b=>b=rb) rfl _ _ _) (fun b hb e=>by have:=qh b hb;have:=nC.out;omega)
    ·exact fun b hb=>Nat.le_trans qn.out.size (qh b hb)
    ·exact(qn.out.trans (Marks.aG _ hX)).trans (aM (S:=fun b=>b=rb) rfl _ _ _)
   ·intro vals vs X hK bg;simp only[RY.aC,Act.put,List.setIfInBounds_toArray,List.set_cons_zero,List.set_cons_succ];generalize vs 13=s13,vs 14=s14,vs 15=s15,vs 16=s16,vs 17=s17,vs 18=s18,vs 19=s19,vs 20=s20,vs 21=s21,vs 22=s22,vs 23=s23,vs 24=s24,vs 25=s25,vs 26=s26;clear bg;obtain⟨ca,cc,F,ic,NY,jl,qh,fz⟩:=hK;have HX:=uh (And.intro ic (And.intro NY (And.intro jl (And.intro qh fz))));have yx:Hid (al (X.setCell ⟨rb,2,none⟩ (.int .i64 ((i:Int)+1))) rb 111 [mv,.slice (some ⟨p,o,none⟩) ls.length lc,.int .i64 ((i:Int)+1),.slice ca (Pl.aP x).length cc,.bool (Pl.bX x),bv,.int .i64 op]):=ic.set 2 _ (by simp);have RC:Hid (Marks (fun b=>b=rb) X (X.setCell ⟨rb,2,none⟩ (.int .i64 ((i:Int)+1)))):=Marks.sc (S:=fun b=>b=rb) X rfl 2 _;have v9:Hid (Rep (X.setCell ⟨rb,2,none⟩ (.int .i64 ((i:Int)+1))) false bB F [.row (Pl.aP x).length (txD (Pl.aP x))] [.slice ca (Pl.aP x).length cc]):=NY.bo RC.out (fun b hb e=>by have:=qh b hb;have:=g9.out;omega);have c2:=ic.get 2 _ rfl;have cl:=ic.own.lt;have cf:=ic.own.frozen 2;have hwi:IntKind.i64.wrap ((i:Int)+1)=(i:Int)+1:=fI _ (by omega) (by omega);obtain⟨Y,hY⟩:∃ Y,Y=X.setCell ⟨rb,2,none⟩ (.int .i64 ((i:Int)+1)):=⟨_,rfl⟩
    rw[← hY]at yx RC v9;clear ic NY jl qh fz;go_upto_region 4 with fail
    rw[← hY];clear hY c2 cl cf;have d3:=yx.out.get 3 _ rfl;have d4:=yx.out.get 4 _ rfl;have dl:=yx.out.own.lt;have LR:Hid (Marks (fun b=>b=rb) w Y):=HX.out.2.2.2.2.trans RC.out;have ML:Hid (F.Nodup∧∀ b∈F,w.heap.size≤b):=⟨HX.out.2.2.1,HX.out.2.2.2.1⟩
    obtain⟨n,hn⟩:∃ n,n=(Pl.aP x).length:=⟨_,rfl⟩
    obtain⟨bad,kV⟩:∃ bad,bad=Pl.bX x:=⟨_,rfl⟩
    rw[← hn]at yx v9 d3;rw[← kV]at yx d4;have wI:=uh (And.intro hn kV);clear hn kV HX;cases bad
    ·by_cases wO:n=0
     ·have d5:¬ ((0:Int)<(n:Int)):=by omega
      have Sk:Hid (Pl.blank ls k (i+1)):=Hq.out.step (by rw[← wM.out];exact Pl.j6 (by rw[← wI.out.1];exact wO) wI.out.2.symm);go_wp2;go_roundw
      case rel=>exact⟨rfl,i+1,_,_,by omega,by omega,Sk.out,yx.out,LR.out⟩
      case measure=>
       rw[yY yx.out,yY RH.out];omega
     ·have d5:((0:Int)<(n:Int)):=by omega
      go_wp2;go_ret;refine Or.inl ⟨i,by omega,by omega,Hq.out,rfl,ca,cc,F, ?_, ?_,ML.out.1,ML.out.2, ?_,LR.out⟩
      ·have q:=yx.out;rw[wI.out.1,wI.out.2,wM.out]at q;exact q
      ·have q:=v9.out;rw[wI.out.1,wM.out]at q;exact q
      ·exact Or.inr (by rw[← wM.out,← wI.out.1];exact wO)
    ·go_wp2;go_ret;refine Or.inl ⟨i,by omega,by omega,Hq.out,rfl,ca,cc,F, ?_, ?_,ML.out.1,ML.out.2, ?_,LR.out⟩
     ·have q:=yx.out;rw[wI.out.1,wI.out.2,wM.out]at q;exact q
     ·have q:=v9.out;rw[wI.out.1,wM.out]at q;exact q
     ·exact Or.inl (by rw[← wM.out,← wI.out.2])
end Go.Proofs.YtopjjknojnfhmaaGreatDoor
