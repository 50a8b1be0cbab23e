import Derived.Test.YtgiglpnaekbegaaGreatDoorERo
import Derived.Test.YtgiglpnaekbegaaGreatDoorESd
namespace Go.Proofs.YtgiglpnaekbegaaGreatDoor
set_option maxRecDepth 8000
set_option maxHeartbeats 40000000
open Go.RowKit Go.Deep
namespace Pl
def mf (acc:List UInt8):List UInt8→List (List UInt8)
 |[]=>if acc.isEmpty then [] else [acc]
 |c::l=>if c.toNat=10 then acc::mf [] l else mf (acc++[c]) l
def fz (s:ByteArray):List ByteArray:=(mf [] s.data.toList).map fun x=>⟨x.toArray⟩
def kH (s:ByteArray) (f k:Nat):List ByteArray:=(mf ((s.data.toList.drop f).take (k - f)) (s.data.toList.drop k)).map fun x=>⟨x.toArray⟩
theorem zT (s:ByteArray):kH s 0 0=fz s:=by simp[kH,fz]
theorem GY (s:ByteArray) (f k:Nat) (h:k<s.size) (hc:s[k].toNat=10):kH s f k=s.extract f k::kH s (k+1) (k+1):=by
 rw[kH,dB s k h,mf,if_pos hc,XS,← eW,back,kH];simp
theorem KO (s:ByteArray) (f k:Nat) (hf:f≤k) (h:k<s.size) (hc:s[k].toNat≠10):kH s f k=kH s f (k+1):=by
 rw[kH,dB s k h,mf,if_neg hc,kH];congr 2;have e:k+1 - f=(k - f)+1:=by omega
 have hl:k - f<(s.data.toList.drop f).length:=by rw[eF];omega
 rw[e,XI hl];congr 2;rw[List.getElem_drop];have:f+(k - f)=k:=by omega
 simp only[this];rfl
theorem Hv (s:ByteArray) (f:Nat) (hf:f<s.size):kH s f s.size=[s.extract f s.size]:=by
 have e:s.data.toList.drop s.size=[]:=Xz (by rw[aD];exact zE);have dr:((s.data.toList.drop f).take (s.size - f)).isEmpty=false:=by
  rw[List.isEmpty_eq_false_iff,← List.length_pos_iff,Xo,eF];omega
 rw[kH,e,mf,dr];show List.map _ [_]=_;rw[XS,List.map_nil,← eW,back]
theorem Cp (s:ByteArray) (f:Nat) (hf:s.size≤f):kH s f s.size=[]:=by
 have e:s.data.toList.drop s.size=[]:=Xz (by rw[aD];exact zE);have e2:s.data.toList.drop f=[]:=Xz (by rw[aD];exact hf);rw[kH,e,e2,mf];simp
end Pl
theorem J8 (s:ByteArray) (w:World) (hs:s.size≤1048576):
  Calls Tryz.prog 14 #[.string s] w (eT bm (.row (Pl.fz s).length (txD (Pl.fz s))) w):=by
 go_enter Tryz.func14,Tryz.ntmps14
 go_wp2;go_loopw [3,4,5] (fun vo vf vi wr=>∃ (f k:Nat) (ts:List ByteArray),vf=.int .i64 f∧vi=.int .i64 k∧TxR wr w.heap.size vo ts∧Bel w wr∧ts.length≤k∧f≤k∧k≤s.size∧Pl.fz s=ts++Pl.kH s f k) (fun _ _ vi _=>s.size - (intOf vi).toNat)
 case atStart=>exact⟨0,0,[],rfl,rfl,TxR.emp w _ zE,af zR _,zE,zE,zN,by rw[Pl.zT];rfl⟩
 case round=>
  obtain⟨f,k,ts,rfl,rfl,hO,hB,mN,Sc,hk,Ia⟩:=hrel;have HO:=uh hO;have HB:=uh hB;have Ep:=uh Ia;have zi:=uh mN;obtain⟨sa,sc,Px⟩:=hO.shape;subst Px;clear hO hB Ia mN;by_cases bq:k<s.size
  rotate_left
  ·obtain rfl:k=s.size:=by omega
   have tB:¬ ((s.size:Int)<(s.size:Int)):=by omega
   by_cases hf:f<s.size
   ·have HE:Hid (Pl.fz s=ts++[s.extract f s.size]):=by show _=_;rw[Ep.out,Pl.Hv s f hf]
    obtain⟨X,hX⟩:∃ X,X=s.extract f s.size:=⟨_,rfl⟩
    have MJ:(0:Int)≤(f:Int):=by omega
    have DJ:(f:Int)<(s.size:Int):=by omega
    have Iv:(f:Int)≤(s.size:Int):=by omega
    have hsl:∀ W:World,(Instr.slice 9 (.string s) (some (.int .i64 (f:Int))) none none).run Tryz.prog W=.ok (.string X) W:=fun W=>by
     have:=run_slice_string_l (P:=Tryz.prog) (w:=W) (t:=9) (s:=s) (ht:=by kernel_rfl) (kl:=.i64) (l:=(f:Int)) (h0:=MJ) (h1:=Iv);rw[this,hX];simp
    rw[← hX]at HE;clear hX;go_wp2_with (refine qj rfl _ _ rfl w.heap.size (.slice sa ts.length sc) ts rfl (HO.out.later (af zR _)) wr.heap.size 1 1 [X] rfl rfl (World.news_of_block (cs:=#[.string X]) (heap_alloc_new wr _)) (by decide) (by have:=zi.out;omega) (Xg HB.out.size (by simp)) ?_;intro gg1 PW w1 q1 q2;have HQ:=uh (Xt q1 ((HO.out.later (af zR _)).below (af HB.out _) q2 zE));clear q1 q2)
    go_ret;rw[HE.out];obtain⟨F,h1,h2,h3⟩:=HQ.out.1.done;rw[At]at h1 ⊢;exact⟨_,F,rfl,h1,h2,h3,HQ.out.2⟩
   ·have HE:Hid (Pl.fz s=ts):=by show _=_;rw[Ep.out,Pl.Cp s f (by omega),Xl]
    have DJ:¬ ((f:Int)<(s.size:Int)):=by omega
    go_wp2;go_ret;rw[HE.out];obtain⟨F,h1,h2,h3⟩:=HO.out.done;exact⟨_,F,rfl,h1,h2,h3,HB.out⟩
  have qp:IntKind.i64.wrap ((k:Int)+1)=(k:Int)+1:=IntWalk.i64_in _ ⟨by omega,by omega⟩;by_cases hc:s[k].toNat=10
  ·have HE:Hid (Pl.fz s=(ts++[s.extract f k])++Pl.kH s (k+1) (k+1)):=by show _=_;rw[Ep.out,Pl.GY s f k bq hc];simp
   obtain⟨X,hX⟩:∃ X,X=s.extract f k:=⟨_,rfl⟩
   have hsl:∀ W:World,(Instr.slice 9 (.string s) (some (.int .i64 (f:Int))) (some (.int .i64 (k:Int))) none).run Tryz.prog W=.ok (.string X) W:=fun W=>by rw[hX];exact xH s f k Sc (by omega) W
   rw[← hX]at HE;clear hX;have d2:((s[k].toNat:Int)==10)=true:=by simp;omega
   clear hc;go_wp2_with (refine qj rfl _ _ rfl w.heap.size (.slice sa ts.length sc) ts rfl (HO.out.later (af zR _)) wr.heap.size 1 1 [X] rfl rfl (World.news_of_block (cs:=#[.string X]) (heap_alloc_new wr _)) (by decide) (by have:=zi.out;omega) (Xg HB.out.size (by simp)) ?_;intro gg1 PW w1 q1 q2;have HQ:=uh (Xt q1 ((HO.out.later (af zR _)).below (af HB.out _) q2 zE));clear q1 q2)
   go_roundw
   case rel=>exact⟨k+1,k+1,ts++[X],by go_num,by go_num,HQ.out.1,HQ.out.2,by rw[At];have:=zi.out;simp;omega,zE,by omega,HE.out⟩
   case measure=>simp[intOf];omega
  ·have HE:Hid (Pl.fz s=ts++Pl.kH s f (k+1)):=by show _=_;rw[Ep.out,Pl.KO s f k Sc bq hc]
   have d2:((s[k].toNat:Int)==10)=false:=by simp;omega
   clear hc;go_wp2;go_roundw
   case rel=>exact⟨f,k+1,ts,rfl,by go_num,HO.out,HB.out,by have:=zi.out;omega,by omega,by omega,HE.out⟩
   case measure=>simp[intOf];omega
end Go.Proofs.YtgiglpnaekbegaaGreatDoor
