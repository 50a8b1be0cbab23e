import Derived.Test.YtopjjknojnfhmaaGreatDoorESd
import Derived.Test.YtopjjknojnfhmaaGreatDoorEFd
namespace Go.Proofs.YtopjjknojnfhmaaGreatDoor
set_option maxHeartbeats 40000000
open Go.RowKit Go.Deep
theorem po (A B:List ByteArray) (va vb:Value) (w:World) (hA:Raw w bB [.row A.length (txD A)] [va]) (hB:Raw w bB [.row B.length (txD B)] [vb]):
  Calls Tryz.prog 61 #[va,vb] w fun e w'=>e=.returned (.bool (Pl.cM A B))∧Bel w w':=by
 have HA:=uh hA;have HB:=uh hB;obtain⟨aa,ca,ea⟩:=hA.bm;obtain⟨ab,cb,eb⟩:=hB.bm;subst ea;subst eb;clear hA hB;go_enter Tryz.func61,Tryz.ntmps61
 go_wp2;go_loopw [5] (fun i wr=>∃ k:Nat,k≤A.length∧k≤B.length∧i=.int .i64 k∧Bel w wr∧Pl.cM A B=Pl.cM (A.drop k) (B.drop k)) (fun i _=>A.length - (intOf i).toNat)
 case atStart=>exact⟨0,zN,zN,rfl,zR,rfl⟩
 case round=>
  obtain⟨k,Fy,Ps,rfl,hW,hI⟩:=hrel;have HW:=uh hW;have HI:=uh hI;clear hW hI;by_cases h1:k<A.length
  rotate_left
  ·have HE:Hid (Pl.cM A B=decide (A.length<B.length)):=by show _=_;rw[HI.out,Pl.ru Fy Ps (Or.inl (by omega))]
   go_wp2;go_ret;exact⟨Pl.aq (by first|exact HE.out.symm|(rw[HE.out,Bool.eq_iff_iff];simp)),HW.out⟩
  by_cases h2:k<B.length
  rotate_left
  ·have HE:Hid (Pl.cM A B=decide (A.length<B.length)):=by show _=_;rw[HI.out,Pl.ru Fy Ps (Or.inr (by omega))]
   go_wp2;go_ret;exact⟨Pl.aq (by first|exact HE.out.symm|(rw[HE.out,Bool.eq_iff_iff];simp)),HW.out⟩
  rcases dS (HA.out.later HW.out) with⟨e0,_⟩|⟨p1,o1,c1,fy,sq,ns,mJ⟩
  ·omega
  rcases dS (HB.out.later HW.out) with⟨e0,_⟩|⟨p2,o2,c2,iI,wQ,tL,lQ⟩
  ·omega
  injection fy with g1 _ g3
  injection iI with k1 _ k3
  subst g1;subst g3;subst k1;subst k3;have y1:=mJ k h1;have y2:=lQ k h2;unfold maxLen at ns;have HS:=uh (Pl.D5 h1 h2);obtain⟨x,hx⟩:∃ x,x=A.getD k Pl.aJ:=⟨_,rfl⟩
  obtain⟨y,hy⟩:∃ y,y=B.getD k Pl.aJ:=⟨_,rfl⟩
  rw[← hx]at y1 HS;rw[← hy]at y2 HS;have ec:(0:Int)≤(k:Int):=by omega
  have hka:(k:Int)<(A.length:Int):=by omega
  have kh:(k:Int)<(B.length:Int):=by omega
  clear hx hy mJ lQ;cases hh:(x.toList==y.toList)
  ·have HE:Hid (Pl.cM A B=Op.bytesLess x.toList y.toList):=by show _=_;rw[HI.out,HS.out,Pl.dD,hh];rfl
   go_wp2_with fail
   go_quiet (fail)
   go_wp2;go_quiet (fail)
   go_wp2;go_ret;exact⟨Pl.aq HE.out.symm,eL (eL HW.out _) _⟩
  ·have HE:Hid (Pl.cM A B=Pl.cM (A.drop (k+1)) (B.drop (k+1))):=by show _=_;rw[HI.out,HS.out,Pl.dD,hh];rfl
   go_wp2_with fail
   go_quiet (fail)
   go_wp2;go_roundw
   case rel=>exact⟨k+1,by omega,by omega,by go_num,eL HW.out _,HE.out⟩
   case measure=>simp[intOf];omega
theorem AS (A B:List ByteArray) (va vb:Value) (w:World) (hA:Raw w bB [.row A.length (txD A)] [va]) (hB:Raw w bB [.row B.length (txD B)] [vb]):
  Calls Tryz.prog 106 #[va,vb] w fun e w'=>e=.returned (.bool (Pl.cH A B))∧Bel w w':=by
 have HA:=uh hA;have HB:=uh hB;obtain⟨aa,ca,ea⟩:=hA.bm;obtain⟨ab,cb,eb⟩:=hB.bm;subst ea;subst eb;have HC:=uh (po A B _ _ w hA hB);have HR:Hid (Pl.cH A B=(!Pl.cM A B&& !Pl.cM B A)):=rfl;clear hA hB;obtain⟨l1,h1⟩:∃ l,l=Pl.cM A B:=⟨_,rfl⟩
 rw[← h1]at HC HR;clear h1;go_enter Tryz.func106,Tryz.ntmps106
 go_wp2_with fail
 refine HC.out.mono ?_;rintro e w1 ⟨rfl,bJ⟩;cases l1
 rotate_left
 ·go_wp2;go_ret;exact⟨Pl.aq (by rw[HR.out];rfl),bJ⟩
 have JG:=uh (po B A _ _ w1 (HB.out.later bJ) (HA.out.later bJ));go_wp2_with fail
 refine JG.out.mono ?_;rintro e w2 ⟨rfl,eD⟩;go_wp2;go_ret;exact⟨Pl.aq (by rw[HR.out];simp),ah bJ eD⟩
theorem iP (kind:ByteArray) (x y:Pl.Ln) (a1 a2:Option Addr) (c1 c2:Nat) (w:World) (hA:Raw w bB [.row x.ws.length (txD x.ws)] [.slice a1 x.ws.length c1]) (hB:Raw w bB [.row y.ws.length (txD y.ws)] [.slice a2 y.ws.length c2]):
  Calls Tryz.prog 34 #[.string kind,.agg #[.string x.key,.slice a1 x.ws.length c1],.agg #[.string y.key,.slice a2 y.ws.length c2]] w fun e w'=>e=.returned (.bool (Pl.aL kind x y))∧Bel w w':=by
 obtain⟨wa,aZ⟩:∃ wa,wa=(w.alloc (.cells #[.string x.key,.slice a1 x.ws.length c1] 46)).alloc (.cells #[.string y.key,.slice a2 y.ws.length c2] 46):=⟨_,rfl⟩
 have cL:Hid (Bel w wa):=by show Below _ _ _;rw[aZ];exact ae (ae zR _) _
 have HX:Hid (aS wa w.heap.size [.string x.key,.slice a1 x.ws.length c1]):=by show aS _ _ _;rw[aZ];exact(aS.new w #[.string x.key,.slice a1 x.ws.length c1] _ _ rfl).lf _
 have HY:Hid (aS wa (w.heap.size+1) [.string y.key,.slice a2 y.ws.length c2]):=by show aS _ _ _;rw[aZ];exact aS.new (w.alloc (.cells #[.string x.key,.slice a1 x.ws.length c1] 46)) #[.string y.key,.slice a2 y.ws.length c2] _ _ (by simp)
 have HA:=uh hA;have kq:=uh hB;have r6:=uh (fun (k:ByteArray) W=>jz kind k W);have HR:Hid (Pl.aL kind x y=(decide (Pl.fP kind x.key<Pl.fP kind y.key)||((Pl.fP kind x.key==Pl.fP kind y.key)&&Pl.cM x.ws y.ws))):=rfl;clear hA hB;go_enter Tryz.func34,Tryz.ntmps34
 go_upto_region 1 with fail
 rw[← aZ];clear aZ;have x0:=HX.out.get 0 _ rfl;have xl:=HX.out.lt;go_wp2_with fail
 refine(r6.out x.key wa).mono ?_;rintro e w1 ⟨rfl,bJ⟩;have y0:=(HY.out.later bJ).get 0 _ rfl;have yl:=(HY.out.later bJ).lt;clear x0 xl;go_wp2_with fail
 refine(r6.out y.key w1).mono ?_;rintro e w2 ⟨rfl,eD⟩;have lK:Hid (Bel wa w2):=ah bJ eD;clear bJ eD y0 yl r6;change Hid (_=(decide (Pl.ixI (Pl.bC (Pl.ai kind) x.key)<Pl.ixI (Pl.bC (Pl.ai kind) y.key))||((Pl.ixI (Pl.bC (Pl.ai kind) x.key)==Pl.ixI (Pl.bC (Pl.ai kind) y.key))&&_))) at HR
 obtain⟨i1,eO⟩:∃ i,i=Pl.ixI (Pl.bC (Pl.ai kind) x.key):=⟨_,rfl⟩
 obtain⟨i2,hi2⟩:∃ i,i=Pl.ixI (Pl.bC (Pl.ai kind) y.key):=⟨_,rfl⟩
 rw[← eO,← hi2]at HR ⊢;clear eO hi2;by_cases bd:i1<i2
 ·go_wp2;go_ret;exact⟨Pl.aq (by rw[HR.out];simp[bd]),ah cL.out lK.out⟩
 cases heq:(i1==i2)
 ·go_wp2;go_ret;exact⟨Pl.aq (by rw[HR.out,heq];simp),ah cL.out lK.out⟩
 have x1:=(HX.out.later lK.out).get 1 _ rfl;have xl:=(HX.out.later lK.out).lt;have y1:=(HY.out.later lK.out).get 1 _ rfl;have yl:=(HY.out.later lK.out).lt;have HC:=uh (po x.ws y.ws _ _ w2 (HA.out.later (ah cL.out lK.out)) (kq.out.later (ah cL.out lK.out)));go_wp2_with fail
 refine HC.out.mono ?_;rintro e w3 ⟨rfl,eP⟩;go_wp2;go_ret;exact⟨Pl.aq (by rw[HR.out,heq];simp),ah (ah cL.out lK.out) eP⟩
end Go.Proofs.YtopjjknojnfhmaaGreatDoor
