import Derived.Test.YtopjjknojnfhmaaGreatDoorECl
import Derived.Test.YtopjjknojnfhmaaGreatDoorEFd
namespace Go.Proofs.YtopjjknojnfhmaaGreatDoor.Pl
def isB (kind name:ByteArray) (b:Bl):Bool:=(b.kind.toList==kind.toList)&&(b.name.toList==name.toList)
def findF (kind name:ByteArray):List Bl→Nat→Option Nat
 |[],_=>none
 |b::l,j=>if isB kind name b then some j else findF kind name l (j+1)
def gQ (l:List Bl) (kind name:ByteArray):Option Nat:=findF kind name l 0
theorem Aj {l:List Bl} {kind name:ByteArray} {k:Nat} (hk:k<l.length) (h:gQ l kind name=findF kind name (l.drop k) k) (hb:isB kind name (l.getD k aN)=true):gQ l kind name=some k:=by
 have e:l.getD k aN=l[k]:=by simp[hk]
 rw[h,List.drop_eq_getElem_cons hk,findF,← e,if_pos hb]
theorem xE {l:List Bl} {kind name:ByteArray} {k:Nat} (hk:k<l.length) (h:gQ l kind name=findF kind name (l.drop k) k) (hb:isB kind name (l.getD k aN)=false):gQ l kind name=findF kind name (l.drop (k+1)) (k+1):=by
 have e:l.getD k aN=l[k]:=by simp[hk]
 rw[h,List.drop_eq_getElem_cons hk,findF,← e,hb];rfl
theorem AL {l:List Bl} {kind name:ByteArray} (h:gQ l kind name=findF kind name (l.drop l.length) l.length):gQ l kind name=none:=by
 rw[h,List.drop_length,findF]
def Hd (l:List Ln) (key:ByteArray):List Ln:=l.filter fun x=>x.key.toList==key.toList
end Go.Proofs.YtopjjknojnfhmaaGreatDoor.Pl
namespace Go.Proofs.YtopjjknojnfhmaaGreatDoor
set_option maxHeartbeats 40000000
open Go.RowKit Go.Deep
theorem Da (s:List Pl.Bl) (v:Value) (kind name:ByteArray) (w:World) (h:Raw w bu [bD s] [v]):
  Calls Tryz.prog 63 #[.agg #[v],.string kind,.string name] w fun e w'=>e=.returned (.int .i64 (Pl.ixI (Pl.gQ s kind name)))∧Bel w w':=by
 have HL:=uh h;obtain⟨va,vc,ev⟩:=h.bm;subst ev;clear h;obtain⟨n,hn⟩:∃ n,n=s.length:=⟨_,rfl⟩
 have HN:=uh hn;have qs:s.length=n:=hn.symm;clear hn;rw[qs];clear qs;obtain⟨wa,aZ⟩:∃ wa,wa=w.alloc (.cells #[.slice va n vc] 25):=⟨_,rfl⟩
 have jG:Hid (Bel w wa):=by show Below _ _ _;rw[aZ];exact ae zR _
 have cL:Hid (aS wa w.heap.size [.slice va n vc]):=by show aS _ _ _;rw[aZ];exact aS.new w #[.slice va n vc] _ _ rfl
 go_enter Tryz.func63,Tryz.ntmps63
 go_upto_region 1 with fail
 rw[← aZ];clear aZ;have x0:=cL.out.get 0 _ rfl;have xl:=cL.out.lt;obtain⟨b0,cd⟩:∃ b0,b0=w.heap.size:=⟨_,rfl⟩
 rw[← cd]at x0 xl ⊢;have kW:=uh cd;clear cd;go_wp2;go_loop [7] (fun i=>∃ k:Nat,k≤n∧i=.int .i64 k∧Pl.gQ s kind name=Pl.findF kind name (s.drop k) k) (fun i=>n - (intOf i).toNat)
 case atStart=>exact⟨0,zN,rfl,rfl⟩
 case round=>
  obtain⟨k,hk,rfl,hI⟩:=hrel;have HI:=uh hI;clear hI;by_cases bd:k<n
  rotate_left
  ·have HX:Hid (-1=Pl.ixI (Pl.gQ s kind name)):=by
    show _=_;obtain rfl:k=s.length:=by have:=HN.out;omega
    rw[Pl.AL HI.out];rfl
   go_wp2;go_ret;exact⟨Pl.cU HX.out,by first|exact jG.out|(rw[kW.out];exact jG.out)⟩
  have iF:k<s.length:=by have:=HN.out;omega
  rcases db (HL.out.later jG.out) with⟨e0,_⟩|⟨p,o,c,hv,hp,fK,aO⟩
  ·omega
  rw[← HN.out]at hv fK;injection hv with g1 _ g3
  subst g1;subst g3;unfold maxLen at fK;obtain⟨ax,cx,jf,fe⟩:=aO k iF;have HM:=uh (fun (h:Pl.isB kind name (s.getD k Pl.aN)=false)=>Pl.xE iF HI.out h);have HH:=uh (fun (h:Pl.isB kind name (s.getD k Pl.aN)=true)=>Pl.Aj iF HI.out h);obtain⟨x,hx⟩:∃ x,x=s.getD k Pl.aN:=⟨_,rfl⟩
  rw[← hx]at jf fe HM HH;have y0:wa.cell? ⟨p,o+k*3,none⟩=some (.string x.kind):=aE jf 0 _ rfl;have y1:wa.cell? ⟨p,o+k*3+1,none⟩=some (.string x.name):=aE jf 1 _ rfl;have ec:(0:Int)≤(k:Int):=by omega
  have dP:(k:Int)<(n:Int):=by omega
  have HB:Hid (Pl.isB kind name x=((x.kind.toList==kind.toList)&&(x.name.toList==name.toList))):=rfl;clear hx aO jf fe;cases h1:(x.kind.toList==kind.toList)
  ·have HX:=uh (HM.out (by rw[HB.out,h1];rfl));go_wp2;go_round
   case rel=>exact⟨k+1,by omega,by go_num,HX.out⟩
   case measure=>simp[intOf];omega
  cases h2:(x.name.toList==name.toList)
  ·have HX:=uh (HM.out (by rw[HB.out,h1,h2];rfl));go_wp2;go_round
   case rel=>exact⟨k+1,by omega,by go_num,HX.out⟩
   case measure=>simp[intOf];omega
  ·have HX:Hid ((k:Int)=Pl.ixI (Pl.gQ s kind name)):=by show _=_;rw[HH.out (by rw[HB.out,h1,h2];rfl)];rfl
   go_wp2;go_ret;exact⟨Pl.cU HX.out,by first|exact jG.out|(rw[kW.out];exact jG.out)⟩
end Go.Proofs.YtopjjknojnfhmaaGreatDoor
