import Derived.BigFrame
import Derived.Test.YtmgibmmpopoboaaESd
import Derived.Test.YtmgibmmpopoboaaEFd
import Derived.Test.YtmgibmmpopoboaaRgG
namespace Go.Proofs.Ytmgibmmpopoboaa
set_option maxHeartbeats 40000000
open Go.RowKit Go.Deep
theorem nN (A B:List ByteArray) (va vb:Value) (w:World) (hA:Raw w cA [.row A.length (txD A)] [va]) (hB:Raw w cA [.row B.length (txD B)] [vb]):
  Calls Try.prog 56 #[va,vb] w fun e w'=>e=.returned (.bool (Pl.cU A B))∧Bel w w':=by
 have HA:=uh hA;have HB:=uh hB;obtain⟨aa,ca,ea⟩:=hA.aP;obtain⟨ab,cb,eb⟩:=hB.aP;subst ea;subst eb;clear hA hB;go_enter Try.func56,Try.ntmps56
 go_wp2;go_loopw [5] (fun i wr=>∃ k:Nat,k≤A.length∧k≤B.length∧i=.int .i64 k∧Bel w wr∧Pl.cU A B=Pl.cU (A.drop k) (B.drop k)) (fun i _=>A.length - (intOf i).toNat)
 case atStart=>exact⟨0,zN,zN,rfl,zR,rfl⟩
 case round=>
  obtain⟨k,yz,EE,rfl,hW,hI⟩:=hrel;have HW:=uh hW;have HI:=uh hI;clear hW hI;by_cases h1:k<A.length
  rotate_left
  ·have HE:Hid (Pl.cU A B=decide (A.length<B.length)):=by show _=_;rw[HI.out,Pl.ps yz EE (Or.inl (by omega))]
   go_wp2;go_ret;exact⟨Pl.aB (by first|exact HE.out.symm|(rw[HE.out,Bool.eq_iff_iff];simp)),HW.out⟩
  by_cases h2:k<B.length
  rotate_left
  ·have HE:Hid (Pl.cU A B=decide (A.length<B.length)):=by show _=_;rw[HI.out,Pl.ps yz EE (Or.inr (by omega))]
   go_wp2;go_ret;exact⟨Pl.aB (by first|exact HE.out.symm|(rw[HE.out,Bool.eq_iff_iff];simp)),HW.out⟩
  rcases g7 (HA.out.ae HW.out) with⟨e0,_⟩|⟨p1,o1,c1,jK,pW,xN,jU⟩
  ·omega
  rcases g7 (HB.out.ae HW.out) with⟨e0,_⟩|⟨p2,o2,c2,fK,oy,mS,kj⟩
  ·omega
  injection jK with g1 _ g3
  injection fK with k1 _ k3
  subst g1;subst g3;subst k1;subst k3;have y1:=jU k h1;have y2:=kj k h2;unfold maxLen at xN;have HS:=uh (Pl.AD h1 h2);obtain⟨x,hx⟩:∃ x,x=A.getD k Pl.eR:=⟨_,rfl⟩
  obtain⟨y,hy⟩:∃ y,y=B.getD k Pl.eR:=⟨_,rfl⟩
  rw[← hx]at y1 HS;rw[← hy]at y2 HS;have dd:(0:Int)≤(k:Int):=by omega
  have hka:(k:Int)<(A.length:Int):=by omega
  have Ky:(k:Int)<(B.length:Int):=by omega
  clear hx hy jU kj;cases hh:(x.toList==y.toList)
  ·have HE:Hid (Pl.cU A B=Op.bytesLess x.toList y.toList):=by show _=_;rw[HI.out,HS.out,Pl.eC,hh];rfl
   go_wp2_with fail
   go_quiet (fail)
   go_wp2;go_quiet (fail)
   go_wp2;go_ret;exact⟨Pl.aB HE.out.symm,eo (eo HW.out _) _⟩
  ·have HE:Hid (Pl.cU A B=Pl.cU (A.drop (k+1)) (B.drop (k+1))):=by show _=_;rw[HI.out,HS.out,Pl.eC,hh];rfl
   go_wp2_with fail
   go_quiet (fail)
   go_wp2;go_roundw
   case rel=>exact⟨k+1,by omega,by omega,by go_num,eo HW.out _,HE.out⟩
   case measure=>simp[intOf];omega
theorem po (A B:List ByteArray) (va vb:Value) (w:World) (hA:Raw w cA [.row A.length (txD A)] [va]) (hB:Raw w cA [.row B.length (txD B)] [vb]):
  Calls Try.prog 27 #[va,vb] w fun e w'=>e=.returned (.bool (Pl.bO A B))∧Bel w w':=by
 have HA:=uh hA;have HB:=uh hB;obtain⟨aa,ca,ea⟩:=hA.aP;obtain⟨ab,cb,eb⟩:=hB.aP;subst ea;subst eb;have HC:=uh (nN A B _ _ w hA hB);have HR:Hid (Pl.bO A B=(!Pl.cU A B&& !Pl.cU B A)):=rfl;clear hA hB;obtain⟨l1,h1⟩:∃ l,l=Pl.cU A B:=⟨_,rfl⟩
 rw[← h1]at HC HR;clear h1;go_enter Try.func27,Try.ntmps27
 go_wp2_with fail
 refine HC.out.mono ?_;rintro e w1 ⟨rfl,bZ⟩;cases l1
 rotate_left
 ·go_wp2;go_ret;exact⟨Pl.aB (by rw[HR.out];rfl),bZ⟩
 have j9:=uh (nN B A _ _ w1 (HB.out.ae bZ) (HA.out.ae bZ));go_wp2_with fail
 refine j9.out.mono ?_;rintro e w2 ⟨rfl,dP⟩;go_wp2;go_ret;exact⟨Pl.aB (by rw[HR.out];simp),ai bZ dP⟩
theorem ir (kind:ByteArray) (x y:Pl.Ln) (a1 a2:Option Addr) (c1 c2:Nat) (w:World) (hA:Raw w cA [.row x.ws.length (txD x.ws)] [.slice a1 x.ws.length c1]) (hB:Raw w cA [.row y.ws.length (txD y.ws)] [.slice a2 y.ws.length c2]):
  Calls Try.prog 55 #[.string kind,.agg #[.string x.key,.slice a1 x.ws.length c1],.agg #[.string y.key,.slice a2 y.ws.length c2]] w fun e w'=>e=.returned (.bool (Pl.aT kind x y))∧Bel w w':=by
 obtain⟨wa,aS⟩:∃ wa,wa=(w.alloc (.cells #[.string x.key,.slice a1 x.ws.length c1] 53)).alloc (.cells #[.string y.key,.slice a2 y.ws.length c2] 53):=⟨_,rfl⟩
 have cu:Hid (Bel w wa):=by show Below _ _ _;rw[aS];exact ah (ah zR _) _
 have HX:Hid (aD wa w.heap.size [.string x.key,.slice a1 x.ws.length c1]):=by show aD _ _ _;rw[aS];exact(aD.new w #[.string x.key,.slice a1 x.ws.length c1] _ _ rfl).fI _
 have HY:Hid (aD wa (w.heap.size+1) [.string y.key,.slice a2 y.ws.length c2]):=by show aD _ _ _;rw[aS];exact aD.new (w.alloc (.cells #[.string x.key,.slice a1 x.ws.length c1] 53)) #[.string y.key,.slice a2 y.ws.length c2] _ _ (by simp)
 have HA:=uh hA;have gR:=uh hB;have oC:=uh (fun (k:ByteArray) W=>fS kind k W);have HR:Hid (Pl.aT kind x y=(decide (Pl.dk kind x.key<Pl.dk kind y.key)||((Pl.dk kind x.key==Pl.dk kind y.key)&&Pl.cU x.ws y.ws))):=rfl;clear hA hB;go_enter Try.func55,Try.ntmps55
 go_upto_region 1 with fail
 rw[← aS];clear aS;have x0:=HX.out.get 0 _ rfl;have xl:=HX.out.lt;go_wp2_with fail
 refine(oC.out x.key wa).mono ?_;rintro e w1 ⟨rfl,bZ⟩;have y0:=(HY.out.ae bZ).get 0 _ rfl;have yl:=(HY.out.ae bZ).lt;clear x0 xl;go_wp2_with fail
 refine(oC.out y.key w1).mono ?_;rintro e w2 ⟨rfl,dP⟩;have gQ:Hid (Bel wa w2):=ai bZ dP;clear bZ dP y0 yl oC;change Hid (_=(decide (Pl.ixI (Pl.bJ (Pl.aj kind) x.key)<Pl.ixI (Pl.bJ (Pl.aj kind) y.key))||((Pl.ixI (Pl.bJ (Pl.aj kind) x.key)==Pl.ixI (Pl.bJ (Pl.aj kind) y.key))&&_))) at HR
 obtain⟨i1,gf⟩:∃ i,i=Pl.ixI (Pl.bJ (Pl.aj kind) x.key):=⟨_,rfl⟩
 obtain⟨i2,hi2⟩:∃ i,i=Pl.ixI (Pl.bJ (Pl.aj kind) y.key):=⟨_,rfl⟩
 rw[← gf,← hi2]at HR ⊢;clear gf hi2;by_cases bN:i1<i2
 ·go_wp2;go_ret;exact⟨Pl.aB (by rw[HR.out];simp[bN]),ai cu.out gQ.out⟩
 cases heq:(i1==i2)
 ·go_wp2;go_ret;exact⟨Pl.aB (by rw[HR.out,heq];simp),ai cu.out gQ.out⟩
 have x1:=(HX.out.ae gQ.out).get 1 _ rfl;have xl:=(HX.out.ae gQ.out).lt;have y1:=(HY.out.ae gQ.out).get 1 _ rfl;have yl:=(HY.out.ae gQ.out).lt;have HC:=uh (nN x.ws y.ws _ _ w2 (HA.out.ae (ai cu.out gQ.out)) (gR.out.ae (ai cu.out gQ.out)));go_wp2_with fail
 refine HC.out.mono ?_;rintro e w3 ⟨rfl,eV⟩;go_wp2;go_ret;exact⟨Pl.aB (by rw[HR.out,heq];simp),ai (ai cu.out gQ.out) eV⟩
set_option maxRecDepth 8000
theorem C4 {kind key:ByteArray} {ws:List ByteArray} (h:Pl.bU kind key ws=true):∃ j,Pl.bJ (Pl.aj kind) key=some j∧j<(Pl.aj kind).length:=by
 unfold Pl.bU at h;cases e:Pl.bJ (Pl.aj kind) key with
 |none=>rw[e]at h;cases h
 |some j=>exact⟨j,rfl,Pl.fm e⟩
theorem jr {W X:World} {L:List Pl.Ln} {p o:Nat} (h:∀ k,k<L.length→∃ a c',W.rangeAt p (o+k*2) [.string (L.getD k Pl.aQ).key,.slice a (L.getD k Pl.aQ).ws.length c']∧Raw W cA [.row (L.getD k Pl.aQ).ws.length (txD (L.getD k Pl.aQ).ws)] [.slice a (L.getD k Pl.aQ).ws.length c']) (hp:p<W.heap.size) (hX:Bel W X):
  ∀ k,k<L.length→∃ a c',X.rangeAt p (o+k*2) [.string (L.getD k Pl.aQ).key,.slice a (L.getD k Pl.aQ).ws.length c']∧Raw X cA [.row (L.getD k Pl.aQ).ws.length (txD (L.getD k Pl.aQ).ws)] [.slice a (L.getD k Pl.aQ).ws.length c']:=fun k hk=>by
 obtain⟨a,c',h1,h2⟩:=h k hk;exact⟨a,c',aA h1 hp hX,h2.ae hX⟩
theorem rZ {L:List Pl.Ln} {i:Nat} (h:i<L.length) (key:ByteArray):Pl.aX (L.take (i+1)) key=Pl.aX (L.take i) key+if Pl.eC (L.getD i Pl.aQ).key key then 1 else 0:=by
 have e:L.getD i Pl.aQ=L[i]:=by simp[h]
 unfold Pl.aX;rw[List.take_succ_eq_append_getElem h,List.countP_append,← e];simp[List.countP_cons]
def VLf (kd:ByteArray) (x:Pl.Ln) (ax:Option Addr) (cx:Nat) (p:Nat) (o:Nat) (n:Nat) (vc:Nat) (k:Nat) (jj:Nat) (u:Value) (_:World):Prop:=match jj with
 |0=>u=.string kd
 |1|6=>u=.slice (some ⟨p,o,none⟩) n vc
 |2|7=>u=.int .i64 (k:Int)
 |3|4|8=>u=.pointer (some ⟨p,o+k*2,none⟩)
 |5=>u=.string x.key
 |9=>u=.pointer (some ⟨p,o+k*2+1,none⟩)
 |10=>u=.slice ax x.ws.length cx
 |11=>u=.bool false
 |12|13|30=>u=.bool true
 |14|15|16|17|18|19|20|21|22|23|24|25|26|27|28|29=>u=undef
 |_=>True
theorem y9 (kd:ByteArray) (x:Pl.Ln) (ax:Option Addr) (cx:Nat) (p:Nat) (o:Nat) (n:Nat) (vc:Nat) (k:Nat):∀ jj u W W',Bel W W'→VLf kd x ax cx p o n vc k jj u W→VLf kd x ax cx p o n vc k jj u W':=fun _ _ _ _ _ h=>h
def VLz (kd:ByteArray) (x:Pl.Ln) (ax:Option Addr) (cx:Nat) (p:Nat) (o:Nat) (n:Nat) (vc:Nat) (k:Nat) (jj:Nat) (u:Value) (_:World):Prop:=match jj with
 |0=>u=.string kd
 |1|6=>u=.slice (some ⟨p,o,none⟩) n vc
 |2|7|14=>u=.int .i64 (k:Int)
 |3|4|8=>u=.pointer (some ⟨p,o+k*2,none⟩)
 |5=>u=.string x.key
 |9=>u=.pointer (some ⟨p,o+k*2+1,none⟩)
 |10=>u=.slice ax x.ws.length cx
 |11=>u=.bool true
 |12|13|15|16|29|30=>u=.bool false
 |17|18|19|20|21|22|23|24|25|26|27|28=>u=undef
 |_=>True
theorem Ac (kd:ByteArray) (x:Pl.Ln) (ax:Option Addr) (cx:Nat) (p:Nat) (o:Nat) (n:Nat) (vc:Nat) (k:Nat):∀ jj u W W',Bel W W'→VLz kd x ax cx p o n vc k jj u W→VLz kd x ax cx p o n vc k jj u W':=fun _ _ _ _ _ h=>h
def VLp (kd:ByteArray) (x:Pl.Ln) (y:Pl.Ln) (ax:Option Addr) (ay:Option Addr) (cx:Nat) (cy:Nat) (p:Nat) (o:Nat) (n:Nat) (vc:Nat) (k:Nat) (b:Bool) (jj:Nat) (u:Value) (_:World):Prop:=match jj with
 |0|17=>u=.string kd
 |1|6|18|23=>u=.slice (some ⟨p,o,none⟩) n vc
 |2|7|14|19|24=>u=.int .i64 (k:Int)
 |3|4|8|25=>u=.pointer (some ⟨p,o+k*2,none⟩)
 |5=>u=.string x.key
 |9=>u=.pointer (some ⟨p,o+k*2+1,none⟩)
 |10=>u=.slice ax x.ws.length cx
 |11|15|16=>u=.bool true
 |12|13=>u=.bool false
 |20=>u=.int .i64 ((k:Int) - 1)
 |21=>u=.pointer (some ⟨p,o+(k - 1)*2,none⟩)
 |22=>u=.agg #[.string y.key,.slice ay y.ws.length cy]
 |26=>u=.agg #[.string x.key,.slice ax x.ws.length cx]
 |27=>u=.bool b
 |28|29|30=>u=.bool (!b)
 |_=>True
theorem zn (kd:ByteArray) (x:Pl.Ln) (y:Pl.Ln) (ax:Option Addr) (ay:Option Addr) (cx:Nat) (cy:Nat) (p:Nat) (o:Nat) (n:Nat) (vc:Nat) (k:Nat) (b:Bool):∀ jj u W W',Bel W W'→VLp kd x y ax ay cx cy p o n vc k b jj u W→VLp kd x y ax ay cx cy p o n vc k b jj u W':=fun _ _ _ _ _ h=>h
def VLm (kd:ByteArray) (x:Pl.Ln) (p:Nat) (o:Nat) (n:Nat) (vc:Nat) (k:Nat) (j:Nat) (m:Nat) (mn:Bool) (jj:Nat) (u:Value) (W:World):Prop:=match jj with
 |0|2=>u=.string kd
 |1=>∃ q oo cc,u=.slice (some ⟨q,oo,none⟩) m cc∧q<W.heap.size∧W.cell? ⟨q,oo+j*4+2,none⟩=some (.bool mn)
 |3=>u=.slice (some ⟨p,o,none⟩) n vc
 |4=>u=.int .i64 (k:Int)
 |5|6=>u=.pointer (some ⟨p,o+k*2,none⟩)
 |7=>u=.string x.key
 |8=>u=.int .i64 (j:Int)
 |9=>∃ q oo,u=.pointer (some ⟨q,oo+j*4,none⟩)∧q<W.heap.size∧W.cell? ⟨q,oo+j*4+2,none⟩=some (.bool mn)
 |10=>∃ q oo,u=.pointer (some ⟨q,oo+j*4+2,none⟩)∧q<W.heap.size∧W.cell? ⟨q,oo+j*4+2,none⟩=some (.bool mn)
 |11|12=>u=.bool mn
 |_=>True
theorem sF (kd:ByteArray) (x:Pl.Ln) (p:Nat) (o:Nat) (n:Nat) (vc:Nat) (k:Nat) (j:Nat) (m:Nat) (mn:Bool):∀ jj u W W',Bel W W'→VLm kd x p o n vc k j m mn jj u W→VLm kd x p o n vc k j m mn jj u W':=by
 intro jj u W W' hb h;match jj with
 |0|2|3|4|5|6|7|8|11|12=>exact h
 |1=>
  obtain⟨q,oo,cc,e,hq,hc⟩:=h;exact⟨q,oo,cc,e,zL hq hb.size,(hb.cell (p:=⟨q,oo+j*4+2,none⟩) hq).trans hc⟩
 |9|10=>
  obtain⟨q,oo,e,hq,hc⟩:=h;exact⟨q,oo,e,zL hq hb.size,(hb.cell (p:=⟨q,oo+j*4+2,none⟩) hq).trans hc⟩
 |n+13=>exact trivial
theorem sJ (kd:ByteArray) (L:List Pl.Ln) (v:Value) (w:World) (h:Raw w aJ [aU L] [v]) (hz:∀ x∈L,∀ s∈x.ws,s.size≤maxLen):
  Calls Try.prog 29 #[.string kd,v] w fun e w'=>e=.returned (.bool (Pl.bA kd L))∧Bel w w':=by
 have HL:=uh h;have HZ:=uh hz;obtain⟨va,vc,ev⟩:=h.aP;subst ev;have HR:Hid (Pl.bA kd L=(List.range L.length).all (Pl.cV kd L)):=rfl;clear h hz;obtain⟨n,hn⟩:∃ n,n=L.length:=⟨_,rfl⟩
 have HN:=uh hn;rw[← hn]at HR;have eD:L.length=n:=hn.symm;clear hn;rw[eD];go_enter Try.func29,Try.ntmps29
 clear eD;go_wp2;go_loopw [5] (fun i wr=>∃ k:Nat,k≤n∧i=.int .i64 k∧Bel w wr∧(List.range k).all (Pl.cV kd L)=true) (fun i _=>n - (intOf i).toNat)
 case atStart=>exact⟨0,zN,rfl,zR,rfl⟩
 case round=>
  obtain⟨k,hk,rfl,hW,hI⟩:=hrel;have HW:=uh hW;have HI:=uh hI;clear hW hI;by_cases bN:k<n
  rotate_left
  ·obtain rfl:k=n:=by omega
   go_wp2;go_ret;exact⟨Pl.aB (by rw[HR.out,HI.out]),HW.out⟩
  have eP:k<L.length:=by have:=HN.out;omega
  rcases cX (HL.out.ae HW.out) with⟨e0,_⟩|⟨p,o,c,hv,hp,ec,aZ⟩
  ·omega
  rw[← HN.out]at hv ec;injection hv with g1 _ g3
  subst g1;subst g3;unfold maxLen at ec;obtain⟨ax,cx,dO,dF⟩:=aZ k eP;have qO:=uh aZ;have qA:=uh (fun h=>(HR.out.trans (Pl.eZ bN h)));have jC:Hid (Pl.cV kd L k=(Pl.bU kd (L.getD k Pl.aQ).key (L.getD k Pl.aQ).ws&&(decide (k=0)||Pl.aT kd (L.getD (k - 1) Pl.aQ) (L.getD k Pl.aQ))&&Pl.eU (Pl.fh kd (L.getD k Pl.aQ).key) (Pl.aX (L.take (k+1)) (L.getD k Pl.aQ).key))):=rfl;obtain⟨x,hx⟩:∃ x,x=L.getD k Pl.aQ:=⟨_,rfl⟩
  have Jg:∀ s∈x.ws,s.size≤maxLen:=by
   have e:L.getD k Pl.aQ=L[k]:=by simp[eP]
   rw[hx,e];exact HZ.out _ (List.getElem_mem eP)
  rw[← hx]at dO dF jC;have eB:=uh dO;have jQ:=uh dF;have HP:=uh hp;have HX0:=uh hx;have dd:(0:Int)≤(k:Int):=by omega
  have de:(k:Int)<(n:Int):=by omega
  have D7:=uh (fun (X:World) (hX:Bel wr X)=>tR kd x.key x.ws (.slice ax x.ws.length cx) X (jQ.out.ae hX) Jg);have DR:=uh (fun h=> @C4 kd x.key x.ws h);obtain⟨fit,pc⟩:∃ f,f=Pl.bU kd x.key x.ws:=⟨_,rfl⟩
  rw[← pc]at D7 jC DR;clear pc Jg hx dO dF aZ;cases fit
  ·have tA:Hid (∀ X:World,Bel wr X→Calls Try.prog 58 #[.string kd,.string x.key,.slice ax x.ws.length cx] X fun e w'=>e=.returned (.bool false)∧Bel X w'):=D7.out;have lU:Hid (∀ X:World,Bel wr X→True):=fun _ _=>trivial;obtain⟨y,ay,cy,b⟩:Pl.Ln×Option Addr×Nat×Bool:=⟨Pl.aQ,none,0,false⟩
   have sW:Hid (Pl.bA kd L=false):=qA.out (by rw[jC.out];rfl);go_upto_region 4 with fail
   refine RY.aH wr zR (VLf kd x ax cx p o n vc k) (y9 _ _ _ _ _ _ _ _ _) (by kernel_rfl) (by kernel_rfl) (by kernel_rfl) (by kernel_rfl) ?_ ?_
   ·intro i o' ho a X hX hk hd;have yx0:X.cell? ⟨p,o+k*2,none⟩=some (.string x.key):=(hX.cell (p:=⟨p,o+k*2,none⟩) HP.out).trans (aF eB.out 0 _ rfl);have yx1:X.cell? ⟨p,o+k*2+1,none⟩=some (.slice ax x.ws.length cx):=(hX.cell (p:=⟨p,o+k*2+1,none⟩) HP.out).trans (aF eB.out 1 _ rfl);have rx:=aA eB.out HP.out hX;match i,ho with
    |0,rfl=>
     exact RY.n (RY.p (.string kd) (by simp[execOp,go_sem,RY.K hk 0 (.string kd)]))
    |1,rfl|6,rfl=>
     exact RY.n (RY.p (.slice (some ⟨p,o,none⟩) n vc) (by simp[execOp,go_sem,RY.K hk 1 (.slice (some ⟨p,o,none⟩) n vc)]))
    |2,rfl|7,rfl=>
     exact RY.n (RY.p (.int .i64 (k:Int)) (by simp[execOp,go_sem,RY.K hk 5 (.int .i64 (k:Int))]))
    |3,rfl=>
     exact RY.n (RY.p (.pointer (some ⟨p,o+k*2,none⟩)) (by simp[execOp,go_sem,RY.E hd 1 16,RY.E hd 2 17,dd,de]))
    |4,rfl=>
     exact RY.n (RY.p (.pointer (some ⟨p,o+k*2,none⟩)) (by simp[execOp,go_sem,RY.E hd 3 18]))
    |5,rfl=>
     exact RY.n (RY.p (.string x.key) (by simp[execOp,go_sem,RY.E hd 4 19,yx0]))
    |8,rfl=>
     exact RY.n (RY.p (.pointer (some ⟨p,o+k*2,none⟩)) (by simp[execOp,go_sem,RY.E hd 6 21,RY.E hd 7 22,dd,de]))
    |9,rfl=>
     exact RY.n (RY.p (.pointer (some ⟨p,o+k*2+1,none⟩)) (by simp[execOp,go_sem,RY.E hd 8 23]))
    |10,rfl=>
     exact RY.n (RY.p (.slice ax x.ws.length cx) (by simp[execOp,go_sem,RY.E hd 9 24,yx1]))
    |11,rfl=>
     have e15:=RY.E hd 0 15;have e20:=RY.E hd 5 20;have e25:=RY.E hd 10 25;refine Or.inl ⟨RY.al rfl,Or.inr ⟨58,#[.string kd,.string x.key,.slice ax x.ws.length cx],by simp[go_sem,e15,e20,e25],(tA.out X hX).mono ?_⟩⟩;rintro e W' ⟨rfl,hb⟩;exact⟨_,rfl,hb,rfl⟩
    |12,rfl=>
     exact RY.n (RY.p (.bool true) (by simp[execOp,go_sem,RY.E hd 11 26]))
    |13,rfl=>
     exact RY.n (RY.p (.bool true) (by simp[execOp,go_sem,RY.E hd 12 27]))
    |14,rfl|15,rfl|16,rfl|29,rfl=>
     exact RY.off hd 13 28
    |17,rfl|18,rfl|19,rfl|20,rfl|21,rfl|22,rfl|23,rfl|24,rfl|25,rfl|26,rfl|27,rfl|28,rfl=>
     exact RY.C8 hd 16 31
    |30,rfl=>
     exact RY.n (RY.p (.bool true) (by simp[execOp,go_sem,RY.E hd 13 28,RY.E hd 29 44]))
    |n+31,ho=>simp at ho
   intro X vs hX bd;have q45:vs 45=_:=bd 30 _ 45 rfl rfl;simp only[RY.aE,Act.put,List.setIfInBounds_toArray,List.set_cons_zero,List.set_cons_succ];rw[q45];generalize vs 15=s15,vs 16=s16,vs 17=s17,vs 18=s18,vs 19=s19,vs 20=s20,vs 21=s21,vs 22=s22,vs 23=s23,vs 24=s24,vs 25=s25,vs 26=s26,vs 27=s27,vs 28=s28,vs 29=s29,vs 30=s30,vs 31=pY,vs 32=o6,vs 33=og,vs 34=oz,vs 35=k6,vs 36=k9,vs 37=lj,vs 38=lY,vs 39=mu,vs 40=s40,vs 41=s41,vs 42=s42,vs 43=s43,vs 44=s44;clear bd q45;go_wp2;go_ret;exact⟨Pl.aB sW.out.symm,ai HW.out hX⟩
  have tA:Hid (∀ X:World,Bel wr X→Calls Try.prog 58 #[.string kd,.string x.key,.slice ax x.ws.length cx] X fun e w'=>e=.returned (.bool true)∧Bel X w'):=D7.out;clear D7;obtain⟨j,sZ,Ii⟩:=DR.out rfl;have EG:Hid (Pl.bJ (Pl.aj kd) x.key=some j∧j<(Pl.aj kd).length):=⟨sZ,Ii⟩
  clear DR sZ Ii;by_cases ee:k=0
  rotate_left
  ·obtain⟨ay,cy,mj,oX⟩:=qO.out (k - 1) (by omega);obtain⟨y,hy⟩:∃ y,y=L.getD (k - 1) Pl.aQ:=⟨_,rfl⟩
   rw[← hy]at mj oX jC;have xZ:=uh mj;have xQ:=uh oX;have s4:=uh (fun (X:World) (hX:Bel wr X)=>ir kd y x ay ax cy cx X (xQ.out.ae hX) (jQ.out.ae hX));obtain⟨b,hb⟩:∃ b,b=Pl.aT kd y x:=⟨_,rfl⟩
   rw[← hb]at s4 jC;have lU:Hid (∀ X:World,Bel wr X→Calls Try.prog 55 #[.string kd,.agg #[.string y.key,.slice ay y.ws.length cy],.agg #[.string x.key,.slice ax x.ws.length cx]] X fun e w'=>e=.returned (.bool b)∧Bel X w'):=s4.out;have Lr:(0:Int)<(k:Int):=by omega
   have jh:0<k:=by omega
   have GD:IntKind.i64.wrap ((k:Int) - 1)=(k:Int) - 1:=IntWalk.i64_in _ ⟨by omega,by omega⟩;have mG:(1:Int)≤(k:Int):=by omega
   have ld:(k:Int) - 1<(n:Int):=by omega
   have BO:((k:Int) - 1).toNat=k - 1:=by omega
   have gi:decide (k=0)=false:=by simpa using ee
   rw[gi]at jC;clear mj oX hy hb s4;go_upto_region 4 with fail
   refine RY.aH wr zR (VLp kd x y ax ay cx cy p o n vc k b) (zn _ _ _ _ _ _ _ _ _ _ _ _ _) (by kernel_rfl) (by kernel_rfl) (by kernel_rfl) (by kernel_rfl) ?_ ?_
   ·intro i o' ho a X hX hk hd;have yx0:X.cell? ⟨p,o+k*2,none⟩=some (.string x.key):=(hX.cell (p:=⟨p,o+k*2,none⟩) HP.out).trans (aF eB.out 0 _ rfl);have yx1:X.cell? ⟨p,o+k*2+1,none⟩=some (.slice ax x.ws.length cx):=(hX.cell (p:=⟨p,o+k*2+1,none⟩) HP.out).trans (aF eB.out 1 _ rfl);have rx:=aA eB.out HP.out hX;have ry:=aA xZ.out HP.out hX;match i,ho with
    |0,rfl=>
     exact RY.n (RY.p (.string kd) (by simp[execOp,go_sem,RY.K hk 0 (.string kd)]))
    |1,rfl|6,rfl=>
     exact RY.n (RY.p (.slice (some ⟨p,o,none⟩) n vc) (by simp[execOp,go_sem,RY.K hk 1 (.slice (some ⟨p,o,none⟩) n vc)]))
    |2,rfl|7,rfl=>
     exact RY.n (RY.p (.int .i64 (k:Int)) (by simp[execOp,go_sem,RY.K hk 5 (.int .i64 (k:Int))]))
    |3,rfl=>
     exact RY.n (RY.p (.pointer (some ⟨p,o+k*2,none⟩)) (by simp[execOp,go_sem,RY.E hd 1 16,RY.E hd 2 17,dd,de]))
    |4,rfl=>
     exact RY.n (RY.p (.pointer (some ⟨p,o+k*2,none⟩)) (by simp[execOp,go_sem,RY.E hd 3 18]))
    |5,rfl=>
     exact RY.n (RY.p (.string x.key) (by simp[execOp,go_sem,RY.E hd 4 19,yx0]))
    |8,rfl=>
     exact RY.n (RY.p (.pointer (some ⟨p,o+k*2,none⟩)) (by simp[execOp,go_sem,RY.E hd 6 21,RY.E hd 7 22,dd,de]))
    |9,rfl=>
     exact RY.n (RY.p (.pointer (some ⟨p,o+k*2+1,none⟩)) (by simp[execOp,go_sem,RY.E hd 8 23]))
    |10,rfl=>
     exact RY.n (RY.p (.slice ax x.ws.length cx) (by simp[execOp,go_sem,RY.E hd 9 24,yx1]))
    |11,rfl=>
     have e15:=RY.E hd 0 15;have e20:=RY.E hd 5 20;have e25:=RY.E hd 10 25;refine Or.inl ⟨RY.al rfl,Or.inr ⟨58,#[.string kd,.string x.key,.slice ax x.ws.length cx],by simp[go_sem,e15,e20,e25],(tA.out X hX).mono ?_⟩⟩;rintro e W' ⟨rfl,hb⟩;exact⟨_,rfl,hb,rfl⟩
    |12,rfl=>
     exact RY.n (RY.p (.bool false) (by simp[execOp,go_sem,RY.E hd 11 26]))
    |13,rfl=>
     exact RY.n (RY.p (.bool false) (by simp[execOp,go_sem,RY.E hd 12 27]))
    |14,rfl=>
     exact RY.on hd 13 28 (RY.p (.int .i64 (k:Int)) (by simp[execOp,go_sem,RY.K hk 5 (.int .i64 (k:Int))]))
    |15,rfl=>
     exact RY.on hd 13 28 (RY.p (.bool true) (by simp[execOp,go_sem,RY.E hd 14 29,jh]))
    |16,rfl=>
     exact RY.on hd 13 28 (RY.p (.bool true) (by simp[execOp,go_sem,RY.E hd 15 30]))
    |17,rfl=>
     exact RY.on hd 16 31 (RY.p (.string kd) (by simp[execOp,go_sem,RY.K hk 0 (.string kd)]))
    |18,rfl|23,rfl=>
     exact RY.on hd 16 31 (RY.p (.slice (some ⟨p,o,none⟩) n vc) (by simp[execOp,go_sem,RY.K hk 1 (.slice (some ⟨p,o,none⟩) n vc)]))
    |19,rfl|24,rfl=>
     exact RY.on hd 16 31 (RY.p (.int .i64 (k:Int)) (by simp[execOp,go_sem,RY.K hk 5 (.int .i64 (k:Int))]))
    |20,rfl=>
     exact RY.on hd 16 31 (RY.p (.int .i64 ((k:Int) - 1)) (by simp[execOp,go_sem,RY.E hd 19 34,GD]))
    |21,rfl=>
     exact RY.on hd 16 31 (RY.p (.pointer (some ⟨p,o+(k - 1)*2,none⟩)) (by simp[execOp,go_sem,RY.E hd 18 33,RY.E hd 20 35,mG,ld,BO]))
    |22,rfl=>
     have gd:=hd 16 _ 31 rfl rfl ⟨⟨16,.guard⟩,by simp,rfl,rfl⟩;exact Or.inl ⟨(RY.ak rfl rfl rfl gd).trans rfl,Or.inl ⟨.agg #[.string y.key,.slice ay y.ws.length cy],X,aq 53 _ rfl p (o+(k - 1)*2) ((RY.af a 36).symm.trans (RY.E hd 21 36)) [.string y.key,.slice ay y.ws.length cy] _ ry Try.underlying53 rfl (by kernel_rfl),zR,rfl⟩⟩
    |25,rfl=>
     exact RY.on hd 16 31 (RY.p (.pointer (some ⟨p,o+k*2,none⟩)) (by simp[execOp,go_sem,RY.E hd 23 38,RY.E hd 24 39,dd,de]))
    |26,rfl=>
     have gd:=hd 16 _ 31 rfl rfl ⟨⟨16,.guard⟩,by simp,rfl,rfl⟩;exact Or.inl ⟨(RY.ak rfl rfl rfl gd).trans rfl,Or.inl ⟨.agg #[.string x.key,.slice ax x.ws.length cx],X,aq 53 _ rfl p (o+k*2) ((RY.af a 40).symm.trans (RY.E hd 25 40)) [.string x.key,.slice ax x.ws.length cx] _ rx Try.underlying53 rfl (by kernel_rfl),zR,rfl⟩⟩
    |27,rfl=>
     have e32:=RY.E hd 17 32;have e37:=RY.E hd 22 37;have e41:=RY.E hd 26 41;refine RY.on hd 16 31 (.inr ⟨55,#[.string kd,.agg #[.string y.key,.slice ay y.ws.length cy],.agg #[.string x.key,.slice ax x.ws.length cx]],by simp[go_sem,e32,e37,e41],(lU.out X hX).mono ?_⟩);rintro e W' ⟨rfl,hb⟩;exact⟨_,rfl,hb,rfl⟩
    |28,rfl=>
     exact RY.on hd 16 31 (RY.p (.bool (!b)) (by simp[execOp,go_sem,RY.E hd 27 42]))
    |29,rfl=>
     exact RY.on hd 13 28 (RY.p (.bool (!b)) (by simp[execOp,go_sem,RY.E hd 16 31,RY.E hd 28 43]))
    |30,rfl=>
     exact RY.n (RY.p (.bool (!b)) (by simp[execOp,go_sem,RY.E hd 13 28,RY.E hd 29 44]))
    |n+31,ho=>simp at ho
   intro X vs hX bd;have q45:vs 45=_:=bd 30 _ 45 rfl rfl;simp only[RY.aE,Act.put,List.setIfInBounds_toArray,List.set_cons_zero,List.set_cons_succ];rw[q45];generalize vs 15=s15,vs 16=s16,vs 17=s17,vs 18=s18,vs 19=s19,vs 20=s20,vs 21=s21,vs 22=s22,vs 23=s23,vs 24=s24,vs 25=s25,vs 26=s26,vs 27=s27,vs 28=s28,vs 29=s29,vs 30=s30,vs 31=pY,vs 32=o6,vs 33=og,vs 34=oz,vs 35=k6,vs 36=k9,vs 37=lj,vs 38=lY,vs 39=mu,vs 40=s40,vs 41=s41,vs 42=s42,vs 43=s43,vs 44=s44;clear bd q45;cases b
   ·have sW:Hid (Pl.bA kd L=false):=qA.out (by rw[jC.out];rfl);clear GD BO;go_wp2;go_ret;exact⟨Pl.aB sW.out.symm,ai HW.out hX⟩
   have qN:Hid (Pl.cV kd L k=Pl.eU (Pl.fh kd x.key) (Pl.aX (L.take (k+1)) x.key)):=by show _=_;rw[jC.out];simp
   clear Lr jh GD mG ld BO gi ee xZ xQ lU jC;obtain⟨wy,rfl⟩:∃ wy,wy=X:=⟨_,rfl⟩
   replace qO:=uh (jr qO.out HP.out hX)
   replace HW:=uh (ai HW.out hX)
   replace eB:=uh (aA eB.out HP.out hX)
   replace HP:=uh (zL HP.out hX.size)
   clear hX tA jQ;have oC:Hid (∀ X,Calls Try.prog 26 #[.string kd,.string x.key] X fun e w'=>e=.returned (.int .i64 (j:Int))∧Bel X w'):=fun X=>by
    have:=fS kd x.key X;rw[EG.out.1]at this;exact this
   have AU:=uh (fun X=>cB kd X);obtain⟨mn,ld⟩:∃ mn,mn=Pl.fh kd x.key:=⟨_,rfl⟩
   have Bd:((Pl.aj kd).getD j Pl.aO).many=mn:=by rw[ld,Pl.fh,EG.out.1]
   rw[← ld]at qN;obtain⟨m,hm⟩:∃ m,m=(Pl.aj kd).length:=⟨_,rfl⟩
   have HJ:Hid (j<(Pl.aj kd).length∧((Pl.aj kd).getD j Pl.aO).many=mn):=⟨EG.out.2,Bd⟩
   have th:(0:Int)≤(j:Int):=by omega
   have JP:(j:Int)<(m:Int):=by have:=EG.out.2;omega
   have vS:Hid (∀ X,Calls Try.prog 23 #[.string kd] X (fe [.row 40 aC] (bQ (Pl.aj kd)) X)):=AU.out;have HM:=uh hm;clear hm ld Bd AU;go_upto_region 6 with fail
   refine RY.aH wy zR (VLm kd x p o n vc k j m mn) (sF _ _ _ _ _ _ _ _ _ _) (by kernel_rfl) (by kernel_rfl) (by kernel_rfl) (by kernel_rfl) ?_ ?_
   ·intro i o' ho a X hX hk hd;have yx0:X.cell? ⟨p,o+k*2,none⟩=some (.string x.key):=(hX.cell (p:=⟨p,o+k*2,none⟩) HP.out).trans (aF eB.out 0 _ rfl);match i,ho with
    |0,rfl|2,rfl=>
     exact RY.n (RY.p (.string kd) (by simp[execOp,go_sem,RY.K hk 0 (.string kd)]))
    |1,rfl=>
     have e46:=RY.E hd 0 46;refine Or.inl ⟨RY.al rfl,Or.inr ⟨23,#[.string kd],by simp[go_sem,e46],(vS.out X).mono ?_⟩⟩;rintro e W' ⟨v,F,rfl,hr,_,_,hb⟩;obtain⟨q,oo,cc,a1,c1,v3,hv,hp,hg,_,_⟩:=eE hr.raw HJ.out.1;have Ju:=aF hg 2 _ rfl;rw[HJ.out.2]at Ju;exact⟨_,rfl,hb,q,oo,cc,by rw[HM.out];exact hv,hp,Ju⟩
    |3,rfl=>
     exact RY.n (RY.p (.slice (some ⟨p,o,none⟩) n vc) (by simp[execOp,go_sem,RY.K hk 1 (.slice (some ⟨p,o,none⟩) n vc)]))
    |4,rfl=>
     exact RY.n (RY.p (.int .i64 (k:Int)) (by simp[execOp,go_sem,RY.K hk 5 (.int .i64 (k:Int))]))
    |5,rfl=>
     exact RY.n (RY.p (.pointer (some ⟨p,o+k*2,none⟩)) (by simp[execOp,go_sem,RY.E hd 3 49,RY.E hd 4 50,dd,de]))
    |6,rfl=>
     exact RY.n (RY.p (.pointer (some ⟨p,o+k*2,none⟩)) (by simp[execOp,go_sem,RY.E hd 5 51]))
    |7,rfl=>
     exact RY.n (RY.p (.string x.key) (by simp[execOp,go_sem,RY.E hd 6 52,yx0]))
    |8,rfl=>
     have e48:=RY.E hd 2 48;have e53:=RY.E hd 7 53;refine Or.inl ⟨RY.al rfl,Or.inr ⟨26,#[.string kd,.string x.key],by simp[go_sem,e48,e53],(oC.out X).mono ?_⟩⟩;rintro e W' ⟨rfl,hb⟩;exact⟨_,rfl,hb,rfl⟩
    |9,rfl=>
     obtain⟨q,oo,cc,e470,hq,hc⟩:=hd 1 _ 47 rfl rfl ⟨⟨1,.data⟩,by simp,rfl,rfl⟩;have e47:=(RY.af a 47).trans e470;exact Or.inl ⟨RY.al rfl,Or.inl ⟨.pointer (some ⟨q,oo+j*4,none⟩),X,by simp[execOp,go_sem,e47,RY.E hd 8 54,th,JP],zR,q,oo,rfl,hq,hc⟩⟩
    |10,rfl=>
     obtain⟨q,oo,e550,hq,hc⟩:=hd 9 _ 55 rfl rfl ⟨⟨9,.data⟩,by simp,rfl,rfl⟩;have e55:=(RY.af a 55).trans e550;exact Or.inl ⟨RY.al rfl,Or.inl ⟨.pointer (some ⟨q,oo+j*4+2,none⟩),X,by simp[execOp,go_sem,e55],zR,q,oo,rfl,hq,hc⟩⟩
    |11,rfl=>
     obtain⟨q,oo,e560,hq,yc⟩:=hd 10 _ 56 rfl rfl ⟨⟨10,.data⟩,by simp,rfl,rfl⟩;have e56:=(RY.af a 56).trans e560;exact RY.n (RY.p (.bool mn) (by simp[execOp,go_sem,e56,yc]))
    |12,rfl=>
     exact RY.n (RY.p (.bool mn) (by simp[execOp,go_sem,RY.E hd 11 57]))
    |n+13,ho=>simp at ho
   intro X vs hX bd;have q6:vs 6=_:=bd 12 _ 6 rfl rfl;simp only[RY.aE,Act.put,List.setIfInBounds_toArray,List.set_cons_zero,List.set_cons_succ];rw[q6];generalize vs 46=s46,vs 47=s47,vs 48=s48,vs 49=s49,vs 50=qG,vs 51=s51,vs 52=s52,vs 53=s53,vs 54=s54,vs 55=s55,vs 56=s56,vs 57=s57;clear bd q6;obtain⟨wz,rfl⟩:∃ wz,wz=X:=⟨_,rfl⟩
   replace qO:=uh (jr qO.out HP.out hX)
   replace HW:=uh (ai HW.out hX)
   replace eB:=uh (aA eB.out HP.out hX)
   replace HP:=uh (zL HP.out hX.size)
   clear hX oC vS HJ HM th JP;go_wp2;go_loopw [7,8] (fun vn vi wr=>∃ q:Nat,q≤k+1∧vi=.int .i64 q∧vn=.int .i64 ((Pl.aX (L.take q) x.key:Nat):Int)∧Bel wz wr) (fun _ vi _=>k+1 - (intOf vi).toNat)
   case atStart=>exact⟨0,zN,rfl,rfl,zR⟩
   case round=>
    obtain⟨q,hq,rfl,rfl,hB⟩:=hrel;have HB:=uh hB;clear hB;have xY:Hid (∀ q,Pl.aX (L.take q) x.key≤q):=fun q=>Nat.le_trans List.countP_le_length (by rw[List.length_take];omega);by_cases hqk:q≤k
    ·have qH:q<L.length:=by have:=HN.out;omega
     obtain⟨az,cz,Jn,_⟩:=qO.out q qH;have y1:=(HB.out.cell (p:=⟨p,o+q*2,none⟩) HP.out).trans (aF Jn 0 _ rfl);have y0:=(HB.out.cell (p:=⟨p,o+k*2,none⟩) HP.out).trans (aF eB.out 0 _ rfl);have jJ:=uh (rZ qH x.key);obtain⟨z,hz⟩:∃ z,z=(L.getD q Pl.aQ).key:=⟨_,rfl⟩
     have y1':wr.cell? ⟨p,o+q*2,none⟩=some (.string z):=by rw[hz];exact y1
     rw[← hz]at jJ;have hpz:p<wr.heap.size:=zL HP.out HB.out.size;have Ku:(0:Int)≤(q:Int):=by omega
     have hqn:(q:Int)<(n:Int):=by omega
     have LH:(q:Int)≤(k:Int):=by omega
     have GB:=xY.out q;obtain⟨ct,oq⟩:∃ ct,ct=Pl.aX (L.take q) x.key:=⟨_,rfl⟩
     rw[← oq]at GB jJ ⊢;clear Jn hz y1 xY oq;cases hh:(z.toList==x.key.toList)
     ·have HE:Hid (Pl.aX (L.take (q+1)) x.key=ct):=by show _=_;rw[jJ.out,Pl.eC,hh];rfl
      go_wp2_with fail
      go_quiet (fail)
      go_wp2;go_roundw
      case rel=>exact⟨q+1,by omega,by go_num,by first|rw[HE.out]|(rw[HE.out];go_num),eo HB.out _⟩
      case measure=>simp[intOf];omega
     ·have HE:Hid (Pl.aX (L.take (q+1)) x.key=ct+1):=by show _=_;rw[jJ.out,Pl.eC,hh];rfl
      go_wp2_with fail
      go_quiet (fail)
      go_wp2;go_roundw
      case rel=>exact⟨q+1,by omega,by go_num,by first|(rw[HE.out];go_num)|rw[HE.out],eo HB.out _⟩
      case measure=>simp[intOf];omega
    ·obtain rfl:q=k+1:=by omega
     have GB:=xY.out (k+1);obtain⟨ct,oq⟩:∃ ct,ct=Pl.aX (L.take (k+1)) x.key:=⟨_,rfl⟩
     rw[← oq]at GB qN ⊢;clear oq xY;have LP:¬ ((k+1:Nat):Int)≤(k:Int):=by omega
     cases hco:Pl.eU mn ct
     ·have sW:Hid (Pl.bA kd L=false):=qA.out (by rw[qN.out,hco]);unfold Pl.eU at hco;have mE:(mn=false∧(1:Int)<(ct:Int))∨((mn=true∨¬ (1:Int)<(ct:Int))∧(10:Int)<(ct:Int)):=by
       cases mn<;>simp at hco ⊢<;>omega
      clear hco;rcases mE with⟨rfl,c1⟩|⟨c1|c1,c2⟩
      ·go_wp2;go_ret;exact⟨Pl.aB sW.out.symm,ai HW.out HB.out⟩
      ·subst c1;go_wp2;go_ret;exact⟨Pl.aB sW.out.symm,ai HW.out HB.out⟩
      ·exfalso;omega
     ·have tx:=uh (Pl.ep HI.out (qN.out.trans hco));unfold Pl.eU at hco;have mE:(mn=true∨¬ (1:Int)<(ct:Int))∧¬ (10:Int)<(ct:Int):=by
       cases mn<;>simp at hco ⊢<;>omega
      obtain⟨c1,c2⟩:=mE;clear hco;rcases c1 with c1|c1
      ·subst c1;go_wp2;go_roundw
       case rel=>exact⟨k+1,by omega,by go_num,ai HW.out HB.out,tx.out⟩
       case measure=>simp[intOf];omega
      ·cases mn
       all_goals
        go_wp2;go_roundw
        case rel=>exact⟨k+1,by omega,by go_num,ai HW.out HB.out,tx.out⟩
        case measure=>simp[intOf];omega
  have jh:¬ 0<k:=by omega
  have qN:Hid (Pl.cV kd L k=Pl.eU (Pl.fh kd x.key) (Pl.aX (L.take (k+1)) x.key)):=by show _=_;rw[jC.out];simp[ee]
  obtain⟨y,ay,cy,b⟩:Pl.Ln×Option Addr×Nat×Bool:=⟨Pl.aQ,none,0,false⟩
  clear jC ee;go_upto_region 4 with fail
  refine RY.aH wr zR (VLz kd x ax cx p o n vc k) (Ac _ _ _ _ _ _ _ _ _) (by kernel_rfl) (by kernel_rfl) (by kernel_rfl) (by kernel_rfl) ?_ ?_
  ·intro i o' ho a X hX hk hd;have yx0:X.cell? ⟨p,o+k*2,none⟩=some (.string x.key):=(hX.cell (p:=⟨p,o+k*2,none⟩) HP.out).trans (aF eB.out 0 _ rfl);have yx1:X.cell? ⟨p,o+k*2+1,none⟩=some (.slice ax x.ws.length cx):=(hX.cell (p:=⟨p,o+k*2+1,none⟩) HP.out).trans (aF eB.out 1 _ rfl);have rx:=aA eB.out HP.out hX;match i,ho with
   |0,rfl=>
    exact RY.n (RY.p (.string kd) (by simp[execOp,go_sem,RY.K hk 0 (.string kd)]))
   |1,rfl|6,rfl=>
    exact RY.n (RY.p (.slice (some ⟨p,o,none⟩) n vc) (by simp[execOp,go_sem,RY.K hk 1 (.slice (some ⟨p,o,none⟩) n vc)]))
   |2,rfl|7,rfl=>
    exact RY.n (RY.p (.int .i64 (k:Int)) (by simp[execOp,go_sem,RY.K hk 5 (.int .i64 (k:Int))]))
   |3,rfl=>
    exact RY.n (RY.p (.pointer (some ⟨p,o+k*2,none⟩)) (by simp[execOp,go_sem,RY.E hd 1 16,RY.E hd 2 17,dd,de]))
   |4,rfl=>
    exact RY.n (RY.p (.pointer (some ⟨p,o+k*2,none⟩)) (by simp[execOp,go_sem,RY.E hd 3 18]))
   |5,rfl=>
    exact RY.n (RY.p (.string x.key) (by simp[execOp,go_sem,RY.E hd 4 19,yx0]))
   |8,rfl=>
    exact RY.n (RY.p (.pointer (some ⟨p,o+k*2,none⟩)) (by simp[execOp,go_sem,RY.E hd 6 21,RY.E hd 7 22,dd,de]))
   |9,rfl=>
    exact RY.n (RY.p (.pointer (some ⟨p,o+k*2+1,none⟩)) (by simp[execOp,go_sem,RY.E hd 8 23]))
   |10,rfl=>
    exact RY.n (RY.p (.slice ax x.ws.length cx) (by simp[execOp,go_sem,RY.E hd 9 24,yx1]))
   |11,rfl=>
    have e15:=RY.E hd 0 15;have e20:=RY.E hd 5 20;have e25:=RY.E hd 10 25;refine Or.inl ⟨RY.al rfl,Or.inr ⟨58,#[.string kd,.string x.key,.slice ax x.ws.length cx],by simp[go_sem,e15,e20,e25],(tA.out X hX).mono ?_⟩⟩;rintro e W' ⟨rfl,hb⟩;exact⟨_,rfl,hb,rfl⟩
   |12,rfl=>
    exact RY.n (RY.p (.bool false) (by simp[execOp,go_sem,RY.E hd 11 26]))
   |13,rfl=>
    exact RY.n (RY.p (.bool false) (by simp[execOp,go_sem,RY.E hd 12 27]))
   |14,rfl=>
    exact RY.on hd 13 28 (RY.p (.int .i64 (k:Int)) (by simp[execOp,go_sem,RY.K hk 5 (.int .i64 (k:Int))]))
   |15,rfl=>
    exact RY.on hd 13 28 (RY.p (.bool false) (by simp[execOp,go_sem,RY.E hd 14 29,jh]))
   |16,rfl=>
    exact RY.on hd 13 28 (RY.p (.bool false) (by simp[execOp,go_sem,RY.E hd 15 30]))
   |17,rfl|18,rfl|19,rfl|20,rfl|21,rfl|22,rfl|23,rfl|24,rfl|25,rfl|26,rfl|27,rfl|28,rfl=>
    exact RY.off hd 16 31
   |29,rfl=>
    exact RY.on hd 13 28 (RY.p (.bool false) (by simp[execOp,go_sem,RY.E hd 16 31,RY.E hd 28 43]))
   |30,rfl=>
    exact RY.n (RY.p (.bool false) (by simp[execOp,go_sem,RY.E hd 13 28,RY.E hd 29 44]))
   |n+31,ho=>simp at ho
  intro X vs hX bd;have q45:vs 45=_:=bd 30 _ 45 rfl rfl;simp only[RY.aE,Act.put,List.setIfInBounds_toArray,List.set_cons_zero,List.set_cons_succ];rw[q45];generalize vs 15=s15,vs 16=s16,vs 17=s17,vs 18=s18,vs 19=s19,vs 20=s20,vs 21=s21,vs 22=s22,vs 23=s23,vs 24=s24,vs 25=s25,vs 26=s26,vs 27=s27,vs 28=s28,vs 29=s29,vs 30=s30,vs 31=pY,vs 32=o6,vs 33=og,vs 34=oz,vs 35=k6,vs 36=k9,vs 37=lj,vs 38=lY,vs 39=mu,vs 40=s40,vs 41=s41,vs 42=s42,vs 43=s43,vs 44=s44;clear bd q45;clear jh;obtain⟨wy,rfl⟩:∃ wy,wy=X:=⟨_,rfl⟩
  replace qO:=uh (jr qO.out HP.out hX)
  replace HW:=uh (ai HW.out hX)
  replace eB:=uh (aA eB.out HP.out hX)
  replace HP:=uh (zL HP.out hX.size)
  clear hX tA jQ;have oC:Hid (∀ X,Calls Try.prog 26 #[.string kd,.string x.key] X fun e w'=>e=.returned (.int .i64 (j:Int))∧Bel X w'):=fun X=>by
   have:=fS kd x.key X;rw[EG.out.1]at this;exact this
  have AU:=uh (fun X=>cB kd X);obtain⟨mn,ld⟩:∃ mn,mn=Pl.fh kd x.key:=⟨_,rfl⟩
  have Bd:((Pl.aj kd).getD j Pl.aO).many=mn:=by rw[ld,Pl.fh,EG.out.1]
  rw[← ld]at qN;obtain⟨m,hm⟩:∃ m,m=(Pl.aj kd).length:=⟨_,rfl⟩
  have HJ:Hid (j<(Pl.aj kd).length∧((Pl.aj kd).getD j Pl.aO).many=mn):=⟨EG.out.2,Bd⟩
  have th:(0:Int)≤(j:Int):=by omega
  have JP:(j:Int)<(m:Int):=by have:=EG.out.2;omega
  have vS:Hid (∀ X,Calls Try.prog 23 #[.string kd] X (fe [.row 40 aC] (bQ (Pl.aj kd)) X)):=AU.out;have HM:=uh hm;clear hm ld Bd AU;go_upto_region 6 with fail
  refine RY.aH wy zR (VLm kd x p o n vc k j m mn) (sF _ _ _ _ _ _ _ _ _ _) (by kernel_rfl) (by kernel_rfl) (by kernel_rfl) (by kernel_rfl) ?_ ?_
  ·intro i o' ho a X hX hk hd;have yx0:X.cell? ⟨p,o+k*2,none⟩=some (.string x.key):=(hX.cell (p:=⟨p,o+k*2,none⟩) HP.out).trans (aF eB.out 0 _ rfl);match i,ho with
   |0,rfl|2,rfl=>
    exact RY.n (RY.p (.string kd) (by simp[execOp,go_sem,RY.K hk 0 (.string kd)]))
   |1,rfl=>
    have e46:=RY.E hd 0 46;refine Or.inl ⟨RY.al rfl,Or.inr ⟨23,#[.string kd],by simp[go_sem,e46],(vS.out X).mono ?_⟩⟩;rintro e W' ⟨v,F,rfl,hr,_,_,hb⟩;obtain⟨q,oo,cc,a1,c1,v3,hv,hp,hg,_,_⟩:=eE hr.raw HJ.out.1;have Ju:=aF hg 2 _ rfl;rw[HJ.out.2]at Ju;exact⟨_,rfl,hb,q,oo,cc,by rw[HM.out];exact hv,hp,Ju⟩
   |3,rfl=>
    exact RY.n (RY.p (.slice (some ⟨p,o,none⟩) n vc) (by simp[execOp,go_sem,RY.K hk 1 (.slice (some ⟨p,o,none⟩) n vc)]))
   |4,rfl=>
    exact RY.n (RY.p (.int .i64 (k:Int)) (by simp[execOp,go_sem,RY.K hk 5 (.int .i64 (k:Int))]))
   |5,rfl=>
    exact RY.n (RY.p (.pointer (some ⟨p,o+k*2,none⟩)) (by simp[execOp,go_sem,RY.E hd 3 49,RY.E hd 4 50,dd,de]))
   |6,rfl=>
    exact RY.n (RY.p (.pointer (some ⟨p,o+k*2,none⟩)) (by simp[execOp,go_sem,RY.E hd 5 51]))
   |7,rfl=>
    exact RY.n (RY.p (.string x.key) (by simp[execOp,go_sem,RY.E hd 6 52,yx0]))
   |8,rfl=>
    have e48:=RY.E hd 2 48;have e53:=RY.E hd 7 53;refine Or.inl ⟨RY.al rfl,Or.inr ⟨26,#[.string kd,.string x.key],by simp[go_sem,e48,e53],(oC.out X).mono ?_⟩⟩;rintro e W' ⟨rfl,hb⟩;exact⟨_,rfl,hb,rfl⟩
   |9,rfl=>
    obtain⟨q,oo,cc,e470,hq,hc⟩:=hd 1 _ 47 rfl rfl ⟨⟨1,.data⟩,by simp,rfl,rfl⟩;have e47:=(RY.af a 47).trans e470;exact Or.inl ⟨RY.al rfl,Or.inl ⟨.pointer (some ⟨q,oo+j*4,none⟩),X,by simp[execOp,go_sem,e47,RY.E hd 8 54,th,JP],zR,q,oo,rfl,hq,hc⟩⟩
   |10,rfl=>
    obtain⟨q,oo,e550,hq,hc⟩:=hd 9 _ 55 rfl rfl ⟨⟨9,.data⟩,by simp,rfl,rfl⟩;have e55:=(RY.af a 55).trans e550;exact Or.inl ⟨RY.al rfl,Or.inl ⟨.pointer (some ⟨q,oo+j*4+2,none⟩),X,by simp[execOp,go_sem,e55],zR,q,oo,rfl,hq,hc⟩⟩
   |11,rfl=>
    obtain⟨q,oo,e560,hq,yc⟩:=hd 10 _ 56 rfl rfl ⟨⟨10,.data⟩,by simp,rfl,rfl⟩;have e56:=(RY.af a 56).trans e560;exact RY.n (RY.p (.bool mn) (by simp[execOp,go_sem,e56,yc]))
   |12,rfl=>
    exact RY.n (RY.p (.bool mn) (by simp[execOp,go_sem,RY.E hd 11 57]))
   |n+13,ho=>simp at ho
  intro X vs hX bd;have q6:vs 6=_:=bd 12 _ 6 rfl rfl;simp only[RY.aE,Act.put,List.setIfInBounds_toArray,List.set_cons_zero,List.set_cons_succ];rw[q6];generalize vs 46=s46,vs 47=s47,vs 48=s48,vs 49=s49,vs 50=qG,vs 51=s51,vs 52=s52,vs 53=s53,vs 54=s54,vs 55=s55,vs 56=s56,vs 57=s57;clear bd q6;obtain⟨wz,rfl⟩:∃ wz,wz=X:=⟨_,rfl⟩
  replace qO:=uh (jr qO.out HP.out hX)
  replace HW:=uh (ai HW.out hX)
  replace eB:=uh (aA eB.out HP.out hX)
  replace HP:=uh (zL HP.out hX.size)
  clear hX oC vS HJ HM th JP;go_wp2;go_loopw [7,8] (fun vn vi wr=>∃ q:Nat,q≤k+1∧vi=.int .i64 q∧vn=.int .i64 ((Pl.aX (L.take q) x.key:Nat):Int)∧Bel wz wr) (fun _ vi _=>k+1 - (intOf vi).toNat)
  case atStart=>exact⟨0,zN,rfl,rfl,zR⟩
  case round=>
   obtain⟨q,hq,rfl,rfl,hB⟩:=hrel;have HB:=uh hB;clear hB;have xY:Hid (∀ q,Pl.aX (L.take q) x.key≤q):=fun q=>Nat.le_trans List.countP_le_length (by rw[List.length_take];omega);by_cases hqk:q≤k
   ·have qH:q<L.length:=by have:=HN.out;omega
    obtain⟨az,cz,Jn,_⟩:=qO.out q qH;have y1:=(HB.out.cell (p:=⟨p,o+q*2,none⟩) HP.out).trans (aF Jn 0 _ rfl);have y0:=(HB.out.cell (p:=⟨p,o+k*2,none⟩) HP.out).trans (aF eB.out 0 _ rfl);have jJ:=uh (rZ qH x.key);obtain⟨z,hz⟩:∃ z,z=(L.getD q Pl.aQ).key:=⟨_,rfl⟩
    have y1':wr.cell? ⟨p,o+q*2,none⟩=some (.string z):=by rw[hz];exact y1
    rw[← hz]at jJ;have hpz:p<wr.heap.size:=zL HP.out HB.out.size;have Ku:(0:Int)≤(q:Int):=by omega
    have hqn:(q:Int)<(n:Int):=by omega
    have LH:(q:Int)≤(k:Int):=by omega
    have GB:=xY.out q;obtain⟨ct,oq⟩:∃ ct,ct=Pl.aX (L.take q) x.key:=⟨_,rfl⟩
    rw[← oq]at GB jJ ⊢;clear Jn hz y1 xY oq;cases hh:(z.toList==x.key.toList)
    ·have HE:Hid (Pl.aX (L.take (q+1)) x.key=ct):=by show _=_;rw[jJ.out,Pl.eC,hh];rfl
     go_wp2_with fail
     go_quiet (fail)
     go_wp2;go_roundw
     case rel=>exact⟨q+1,by omega,by go_num,by first|rw[HE.out]|(rw[HE.out];go_num),eo HB.out _⟩
     case measure=>simp[intOf];omega
    ·have HE:Hid (Pl.aX (L.take (q+1)) x.key=ct+1):=by show _=_;rw[jJ.out,Pl.eC,hh];rfl
     go_wp2_with fail
     go_quiet (fail)
     go_wp2;go_roundw
     case rel=>exact⟨q+1,by omega,by go_num,by first|(rw[HE.out];go_num)|rw[HE.out],eo HB.out _⟩
     case measure=>simp[intOf];omega
   ·obtain rfl:q=k+1:=by omega
    have GB:=xY.out (k+1);obtain⟨ct,oq⟩:∃ ct,ct=Pl.aX (L.take (k+1)) x.key:=⟨_,rfl⟩
    rw[← oq]at GB qN ⊢;clear oq xY;have LP:¬ ((k+1:Nat):Int)≤(k:Int):=by omega
    cases hco:Pl.eU mn ct
    ·have sW:Hid (Pl.bA kd L=false):=qA.out (by rw[qN.out,hco]);unfold Pl.eU at hco;have mE:(mn=false∧(1:Int)<(ct:Int))∨((mn=true∨¬ (1:Int)<(ct:Int))∧(10:Int)<(ct:Int)):=by
      cases mn<;>simp at hco ⊢<;>omega
     clear hco;rcases mE with⟨rfl,c1⟩|⟨c1|c1,c2⟩
     ·go_wp2;go_ret;exact⟨Pl.aB sW.out.symm,ai HW.out HB.out⟩
     ·subst c1;go_wp2;go_ret;exact⟨Pl.aB sW.out.symm,ai HW.out HB.out⟩
     ·exfalso;omega
    ·have tx:=uh (Pl.ep HI.out (qN.out.trans hco));unfold Pl.eU at hco;have mE:(mn=true∨¬ (1:Int)<(ct:Int))∧¬ (10:Int)<(ct:Int):=by
      cases mn<;>simp at hco ⊢<;>omega
     obtain⟨c1,c2⟩:=mE;clear hco;rcases c1 with c1|c1
     ·subst c1;go_wp2;go_roundw
      case rel=>exact⟨k+1,by omega,by go_num,ai HW.out HB.out,tx.out⟩
      case measure=>simp[intOf];omega
     ·cases mn
      all_goals
       go_wp2;go_roundw
       case rel=>exact⟨k+1,by omega,by go_num,ai HW.out HB.out,tx.out⟩
       case measure=>simp[intOf];omega
theorem lB (x y:Pl.Bl) (v1 v2:Value) (w:World):
  Calls Try.prog 30 #[.agg #[.string x.kind,.string x.name,v1],.agg #[.string y.kind,.string y.name,v2]] w fun e w'=>e=.returned (.bool (Pl.ahead x y))∧Bel w w':=by
 obtain⟨wa,aS⟩:∃ wa,wa=(w.alloc (.cells #[.string x.kind,.string x.name,v1] 32)).alloc (.cells #[.string y.kind,.string y.name,v2] 32):=⟨_,rfl⟩
 have cu:Hid (Bel w wa):=by show Below _ _ _;rw[aS];exact ah (ah zR _) _
 have HX:aD wa w.heap.size [.string x.kind,.string x.name,v1]:=by rw[aS];exact(aD.new w #[.string x.kind,.string x.name,v1] _ _ rfl).fI _
 have HY:aD wa (w.heap.size+1) [.string y.kind,.string y.name,v2]:=by rw[aS];exact aD.new (w.alloc (.cells #[.string x.kind,.string x.name,v1] 32)) #[.string y.kind,.string y.name,v2] _ _ (by simp)
 have HR:Hid (Pl.ahead x y=(Op.bytesLess x.kind.toList y.kind.toList||((x.kind.toList==y.kind.toList)&&Op.bytesLess x.name.toList y.name.toList))):=rfl;go_enter Try.func30,Try.ntmps30
 go_upto_region 1 with fail
 rw[← aS];clear aS;have x0:=HX.get 0 _ rfl;have x1:=HX.get 1 _ rfl;have xl:=HX.lt;have y0:=HY.get 0 _ rfl;have y1:=HY.get 1 _ rfl;have yl:=HY.lt;clear HX HY;cases h1:Op.bytesLess x.kind.toList y.kind.toList
 ·cases h2:(x.kind.toList==y.kind.toList)
  ·go_wp2;go_ret;exact⟨Pl.aB (by rw[HR.out,h1,h2];rfl),cu.out⟩
  ·go_wp2;go_ret;exact⟨Pl.aB (by rw[HR.out,h1,h2];simp),cu.out⟩
 ·go_wp2;go_ret;exact⟨Pl.aB (by rw[HR.out,h1];rfl),cu.out⟩
def VSa (x:Pl.Bl) (m:Nat) (b1:Nat) (jj:Nat) (u:Value) (_:World):Prop:=match jj with
 |0=>u=.pointer (some ⟨b1,0,none⟩)
 |1=>u=.string x.kind
 |2=>∃ a c,u=.slice a m c
 |3=>u=.int .i64 (m:Int)
 |4|5|10|11|18|19|33=>u=.bool true
 |6|7|8|9|12|13|14|15|16|17|20|21|22|23|24|25|26|27|28|29|30|31|32=>u=undef
 |_=>True
theorem zg (x:Pl.Bl) (m:Nat) (b1:Nat):∀ jj u W W',Bel W W'→VSa x m b1 jj u W→VSa x m b1 jj u W':=fun _ _ _ _ _ h=>h
def VSb (x:Pl.Bl) (m:Nat) (b1:Nat) (jj:Nat) (u:Value) (_:World):Prop:=match jj with
 |0=>u=.pointer (some ⟨b1,0,none⟩)
 |1=>u=.string x.kind
 |2=>∃ a c,u=.slice a m c
 |3=>u=.int .i64 (m:Int)
 |4|5|8=>u=.bool false
 |6=>u=.pointer (some ⟨b1,1,none⟩)
 |7=>u=.string x.name
 |9|10|11|18|19|33=>u=.bool true
 |12|13|14|15|16|17|20|21|22|23|24|25|26|27|28|29|30|31|32=>u=undef
 |_=>True
theorem z4 (x:Pl.Bl) (m:Nat) (b1:Nat):∀ jj u W W',Bel W W'→VSb x m b1 jj u W→VSb x m b1 jj u W':=fun _ _ _ _ _ h=>h
def VSc (x:Pl.Bl) (ax:Option Addr) (cx:Nat) (m:Nat) (b1:Nat) (jj:Nat) (u:Value) (_:World):Prop:=match jj with
 |0|12=>u=.pointer (some ⟨b1,0,none⟩)
 |1|13=>u=.string x.kind
 |2=>∃ a c,u=.slice a m c
 |3=>u=.int .i64 (m:Int)
 |4|5|9|10|11|16=>u=.bool false
 |6=>u=.pointer (some ⟨b1,1,none⟩)
 |7=>u=.string x.name
 |8|17|18|19|33=>u=.bool true
 |14=>u=.pointer (some ⟨b1,2,none⟩)
 |15=>u=.slice ax x.lines.length cx
 |20|21|22|23|24|25|26|27|28|29|30|31|32=>u=undef
 |_=>True
theorem zB (x:Pl.Bl) (ax:Option Addr) (cx:Nat) (m:Nat) (b1:Nat):∀ jj u W W',Bel W W'→VSc x ax cx m b1 jj u W→VSc x ax cx m b1 jj u W':=fun _ _ _ _ _ h=>h
def VSd (x:Pl.Bl) (ax:Option Addr) (cx:Nat) (k:Nat) (m:Nat) (b1:Nat) (jj:Nat) (u:Value) (_:World):Prop:=match jj with
 |0|12=>u=.pointer (some ⟨b1,0,none⟩)
 |1|13=>u=.string x.kind
 |2=>∃ a c,u=.slice a m c
 |3=>u=.int .i64 (m:Int)
 |4|5|9|10|11|17|18|19|21|22|32|33=>u=.bool false
 |6=>u=.pointer (some ⟨b1,1,none⟩)
 |7=>u=.string x.name
 |8|16=>u=.bool true
 |14=>u=.pointer (some ⟨b1,2,none⟩)
 |15=>u=.slice ax x.lines.length cx
 |20=>u=.int .i64 (k:Int)
 |23|24|25|26|27|28|29|30|31=>u=undef
 |_=>True
theorem zC (x:Pl.Bl) (ax:Option Addr) (cx:Nat) (k:Nat) (m:Nat) (b1:Nat):∀ jj u W W',Bel W W'→VSd x ax cx k m b1 jj u W→VSd x ax cx k m b1 jj u W':=fun _ _ _ _ _ h=>h
def VSe (x:Pl.Bl) (y:Pl.Bl) (ax:Option Addr) (ay:Option Addr) (cx:Nat) (cy:Nat) (p:Nat) (o:Nat) (n:Nat) (vc:Nat) (k:Nat) (m:Nat) (b0:Nat) (b1:Nat) (b:Bool) (jj:Nat) (u:Value) (_:World):Prop:=match jj with
 |0|12=>u=.pointer (some ⟨b1,0,none⟩)
 |1|13=>u=.string x.kind
 |2=>∃ a c,u=.slice a m c
 |3=>u=.int .i64 (m:Int)
 |4|5|9|10|11|17|18|19=>u=.bool false
 |6=>u=.pointer (some ⟨b1,1,none⟩)
 |7=>u=.string x.name
 |8|16|21|22=>u=.bool true
 |14=>u=.pointer (some ⟨b1,2,none⟩)
 |15=>u=.slice ax x.lines.length cx
 |20|25=>u=.int .i64 (k:Int)
 |23=>u=.pointer (some ⟨b0,0,none⟩)
 |24=>u=.slice (some ⟨p,o,none⟩) n vc
 |26=>u=.int .i64 ((k:Int) - 1)
 |27=>u=.pointer (some ⟨p,o+(k - 1)*3,none⟩)
 |28=>u=.agg #[.string y.kind,.string y.name,.slice ay y.lines.length cy]
 |29=>u=.agg #[.string x.kind,.string x.name,.slice ax x.lines.length cx]
 |30=>u=.bool b
 |31|32|33=>u=.bool (!b)
 |_=>True
theorem Az (x:Pl.Bl) (y:Pl.Bl) (ax:Option Addr) (ay:Option Addr) (cx:Nat) (cy:Nat) (p:Nat) (o:Nat) (n:Nat) (vc:Nat) (k:Nat) (m:Nat) (b0:Nat) (b1:Nat) (b:Bool):∀ jj u W W',Bel W W'→VSe x y ax ay cx cy p o n vc k m b0 b1 b jj u W→VSe x y ax ay cx cy p o n vc k m b0 b1 b jj u W':=fun _ _ _ _ _ h=>h
def kr (s:List Pl.Bl):Prop:=∀ b∈s,b.name.size≤maxLen∧∀ x∈b.lines,∀ t∈x.ws,t.size≤maxLen
theorem gx (s:List Pl.Bl) (v:Value) (w:World) (h:Raw w aV [aW s] [v]) (hz:kr s):
  Calls Try.prog 10 #[.agg #[v]] w fun e w'=>e=.returned (.bool (Pl.aM s))∧Bel w w':=by
 have HL:=uh h;have HZ:=uh hz;obtain⟨va,vc,ev⟩:=h.aP;subst ev;have HR:Hid (Pl.aM s=(decide (s.length≤60)&&(List.range s.length).all (Pl.cQ s))):=rfl;clear h hz;obtain⟨n,hn⟩:∃ n,n=s.length:=⟨_,rfl⟩
 have HN:=uh hn;rw[← hn]at HR;have eD:s.length=n:=hn.symm;clear hn;rw[eD];clear eD;obtain⟨wa,aS⟩:∃ wa,wa=w.alloc (.cells #[.slice va n vc] 25):=⟨_,rfl⟩
 have jP:Hid (Bel w wa):=by show Below _ _ _;rw[aS];exact ah zR _
 have cu:Hid (aD wa w.heap.size [.slice va n vc]):=by show aD _ _ _;rw[aS];exact aD.new w #[.slice va n vc] _ _ rfl
 go_enter Try.func10,Try.ntmps10
 go_upto_region 1 with fail
 rw[← aS];clear aS;have x0:=cu.out.get 0 _ rfl;have xl:=cu.out.lt;by_cases J4:(60:Int)<(n:Int)
 ·have HX:Hid (Pl.aM s=false):=by show _=_;rw[HR.out];simp;intro h;omega
  go_wp2;go_ret;exact⟨Pl.aB HX.out.symm,jP.out⟩
 have HV:Hid (Pl.aM s=(List.range n).all (Pl.cQ s)):=by show _=_;rw[HR.out];simp;omega
 go_upto_region 3 with fail
 clear x0 xl HR;obtain⟨b0,bD⟩:∃ b0,b0=w.heap.size:=⟨_,rfl⟩
 rw[← bD]at cu ⊢;have iG:=uh bD;clear bD;go_wp2;go_loopw [3] (fun i wr=>∃ k:Nat,k≤n∧i=.int .i64 k∧Bel w wr∧aD wr b0 [.slice va n vc]∧(List.range k).all (Pl.cQ s)=true) (fun i _=>n - (intOf i).toNat)
 case atStart=>exact⟨0,zN,rfl,jP.out,cu.out,rfl⟩
 case round=>
  clear cu;obtain⟨k,hk,rfl,hW,tw,hI⟩:=hrel;have HW:=uh hW;have HI:=uh hI;have fz:=uh tw;have x0:=tw.get 0 _ rfl;have xl:=tw.lt;clear hW hI tw;by_cases bN:k<n
  rotate_left
  ·obtain rfl:k=n:=by omega
   go_wp2;go_ret;exact⟨Pl.aB (by rw[HV.out,HI.out]),HW.out⟩
  have eP:k<s.length:=by have:=HN.out;omega
  rcases cL (HL.out.ae HW.out) with⟨e0,_⟩|⟨p,o,c,hv,hp,ec,aZ⟩
  ·omega
  rw[← HN.out]at hv ec;injection hv with g1 _ g3
  subst g1;subst g3;unfold maxLen at ec;obtain⟨ax,cx,dO,dF⟩:=aZ k eP;have qA:=uh (fun h=>(HV.out.trans (Pl.eZ bN h)));have jC:Hid (Pl.cQ s k=(!decide ((Pl.aj (s.getD k Pl.aG).kind).length=0)&&Pl.cd (s.getD k Pl.aG).name&&Pl.bA (s.getD k Pl.aG).kind (s.getD k Pl.aG).lines&&(decide (k=0)||Pl.ahead (s.getD (k - 1) Pl.aG) (s.getD k Pl.aG)))):=rfl;obtain⟨x,hx⟩:∃ x,x=s.getD k Pl.aG:=⟨_,rfl⟩
  have Jg:x.name.size≤maxLen∧∀ z∈x.lines,∀ t∈z.ws,t.size≤maxLen:=by
   have e:s.getD k Pl.aG=s[k]:=by simp[eP]
   rw[hx,e];exact HZ.out _ (List.getElem_mem eP)
  rw[← hx]at dO dF jC;obtain⟨wq,tv⟩:∃ wq,wq=wr.alloc (.cells #[.string x.kind,.string x.name,.slice ax x.lines.length cx] 32):=⟨_,rfl⟩
  obtain⟨b1,bZ⟩:∃ b1,b1=wr.heap.size:=⟨_,rfl⟩
  have ED:Bel wr wq:=by rw[tv];exact ah zR _
  have fk:Hid (aD wq b1 [.string x.kind,.string x.name,.slice ax x.lines.length cx]):=by show aD _ _ _;rw[tv,bZ];exact aD.new wr #[.string x.kind,.string x.name,.slice ax x.lines.length cx] _ _ rfl
  have cu:=uh (fz.out.ae ED);have Ch:=uh (ai HW.out ED);have HP:=uh (zL hp ED.size);have jQ:=uh (dF.ae ED);have qO:Hid (∀ k,k<s.length→∃ a c',wq.rangeAt p (o+k*3) [.string (s.getD k Pl.aG).kind,.string (s.getD k Pl.aG).name,.slice a (s.getD k Pl.aG).lines.length c']):=fun k hk=>by
   obtain⟨a,c',h1,_⟩:=aZ k hk;exact⟨a,c',aA h1 hp ED⟩
  have dd:(0:Int)≤(k:Int):=by omega
  have de:(k:Int)<(n:Int):=by omega
  have Kb:wr.rangeAt p (o+k*3) [.string x.kind,.string x.name,.slice ax x.lines.length cx]:=dO;have HXZ:=uh Jg;clear hx aZ Jg;go_upto_region 7 with(refine wpList_load_mid rfl 32 _ rfl p (o+k*3) rfl [.string x.kind,.string x.name,.slice ax x.lines.length cx] _ Kb Try.underlying32 rfl (by kernel_rfl) ?_)
  rw[← tv,← bZ];clear tv bZ ED dO dF Kb x0 xl HW fz hp dd de;have vS:=uh (fun X=>cB x.kind X);have DA:=uh (fun X=>ng x.name X HXZ.out.1);have s4:=uh (fun (X:World) (hX:Bel wq X)=>sJ x.kind x.lines (.slice ax x.lines.length cx) X (jQ.out.ae hX) HXZ.out.2);obtain⟨m,hm⟩:∃ m,m=(Pl.aj x.kind).length:=⟨_,rfl⟩
  have HM:=uh hm;rw[← hm]at jC;clear hm;by_cases mG:m=0
  ·have sW:Hid (Pl.aM s=false):=qA.out (by rw[jC.out,mG];rfl);obtain⟨y,ay,cy,b⟩:Pl.Bl×Option Addr×Nat×Bool:=⟨Pl.aG,none,0,false⟩
   refine RY.aH wq zR (VSa x m b1) (zg _ _ _) (by kernel_rfl) (by kernel_rfl) (by kernel_rfl) (by kernel_rfl) ?_ ?_
   ·intro i o' ho a X hX hk hd;have z0:=(fk.out.ae hX).get 0 _ rfl;have z1:=(fk.out.ae hX).get 1 _ rfl;have z2:=(fk.out.ae hX).get 2 _ rfl;have rx:=(fk.out.ae hX).at_;have zb:=(cu.out.ae hX).get 0 _ rfl;match i,ho with
    |0,rfl=>
     exact RY.n (RY.p (.pointer (some ⟨b1,0,none⟩)) (by simp[execOp,go_sem,RY.K hk 4 (.pointer (some ⟨b1,0,none⟩))]))
    |1,rfl=>
     exact RY.n (RY.p (.string x.kind) (by simp[execOp,go_sem,RY.E hd 0 21,z0]))
    |2,rfl=>
     have e22:=RY.E hd 1 22;refine Or.inl ⟨RY.al rfl,Or.inr ⟨23,#[.string x.kind],by simp[go_sem,e22],(vS.out X).mono ?_⟩⟩;rintro e W' ⟨v,F,rfl,hr,_,_,hb⟩;obtain⟨a1,c1,hv⟩:=hr.raw.aP;exact⟨_,rfl,hb,a1,c1,by rw[HM.out];exact hv⟩
    |3,rfl=>
     obtain⟨a1,c1,e230⟩:=hd 2 _ 23 rfl rfl ⟨⟨2,.data⟩,by simp,rfl,rfl⟩;have e23:=(RY.af a 23).trans e230;exact RY.n (RY.p (.int .i64 (m:Int)) (by simp[go_sem,e23]))
    |4,rfl=>
     exact RY.n (RY.p (.bool true) (by simp[execOp,go_sem,RY.E hd 3 24,mG]))
    |5,rfl=>
     exact RY.n (RY.p (.bool true) (by simp[execOp,go_sem,RY.E hd 4 25]))
    |6,rfl|7,rfl|8,rfl|9,rfl=>
     exact RY.off hd 5 26
    |10,rfl=>
     exact RY.n (RY.p (.bool true) (by simp[execOp,go_sem,RY.E hd 5 26,RY.E hd 9 30]))
    |11,rfl=>
     exact RY.n (RY.p (.bool true) (by simp[execOp,go_sem,RY.E hd 10 31]))
    |12,rfl|13,rfl|14,rfl|15,rfl|16,rfl|17,rfl=>
     exact RY.off hd 11 32
    |18,rfl=>
     exact RY.n (RY.p (.bool true) (by simp[execOp,go_sem,RY.E hd 11 32,RY.E hd 17 38]))
    |19,rfl=>
     exact RY.n (RY.p (.bool true) (by simp[execOp,go_sem,RY.E hd 18 39]))
    |20,rfl|21,rfl|22,rfl|32,rfl=>
     exact RY.off hd 19 40
    |23,rfl|24,rfl|25,rfl|26,rfl|27,rfl|28,rfl|29,rfl|30,rfl|31,rfl=>
     exact RY.C8 hd 22 43
    |33,rfl=>
     exact RY.n (RY.p (.bool true) (by simp[execOp,go_sem,RY.E hd 19 40,RY.E hd 32 53]))
    |n+34,ho=>simp at ho
   intro X vs hX bd;have q54:vs 54=_:=bd 33 _ 54 rfl rfl;simp only[RY.aE,Act.put,List.setIfInBounds_toArray,List.set_cons_zero,List.set_cons_succ];rw[q54];generalize vs 21=s21,vs 22=s22,vs 23=s23,vs 24=s24,vs 25=s25,vs 26=s26,vs 27=s27,vs 28=s28,vs 29=s29,vs 30=s30,vs 31=pY,vs 32=o6,vs 33=og,vs 34=oz,vs 35=k6,vs 36=k9,vs 37=lj,vs 38=lY,vs 39=mu,vs 40=s40,vs 41=s41,vs 42=s42,vs 43=s43,vs 44=s44,vs 45=s45,vs 46=s46,vs 47=s47,vs 48=s48,vs 49=s49,vs 50=qG,vs 51=s51,vs 52=s52,vs 53=s53;clear bd q54;go_wp2;go_ret;exact⟨Pl.aB sW.out.symm,ai Ch.out hX⟩
  have hdm:decide (m=0)=false:=by simpa using mG
  rw[hdm]at jC;clear hdm;obtain⟨nm,vJ⟩:∃ b,b=Pl.cd x.name:=⟨_,rfl⟩
  rw[← vJ]at DA jC;clear vJ;cases nm
  ·have sW:Hid (Pl.aM s=false):=qA.out (by rw[jC.out];rfl);have Dy:Hid (∀ X,Calls Try.prog 28 #[.string x.name] X fun e w'=>e=.returned (.bool false)∧X=w'):=DA.out;obtain⟨y,ay,cy,b⟩:Pl.Bl×Option Addr×Nat×Bool:=⟨Pl.aG,none,0,false⟩
   refine RY.aH wq zR (VSb x m b1) (z4 _ _ _) (by kernel_rfl) (by kernel_rfl) (by kernel_rfl) (by kernel_rfl) ?_ ?_
   ·intro i o' ho a X hX hk hd;have z0:=(fk.out.ae hX).get 0 _ rfl;have z1:=(fk.out.ae hX).get 1 _ rfl;have z2:=(fk.out.ae hX).get 2 _ rfl;have rx:=(fk.out.ae hX).at_;have zb:=(cu.out.ae hX).get 0 _ rfl;match i,ho with
    |0,rfl=>
     exact RY.n (RY.p (.pointer (some ⟨b1,0,none⟩)) (by simp[execOp,go_sem,RY.K hk 4 (.pointer (some ⟨b1,0,none⟩))]))
    |1,rfl=>
     exact RY.n (RY.p (.string x.kind) (by simp[execOp,go_sem,RY.E hd 0 21,z0]))
    |2,rfl=>
     have e22:=RY.E hd 1 22;refine Or.inl ⟨RY.al rfl,Or.inr ⟨23,#[.string x.kind],by simp[go_sem,e22],(vS.out X).mono ?_⟩⟩;rintro e W' ⟨v,F,rfl,hr,_,_,hb⟩;obtain⟨a1,c1,hv⟩:=hr.raw.aP;exact⟨_,rfl,hb,a1,c1,by rw[HM.out];exact hv⟩
    |3,rfl=>
     obtain⟨a1,c1,e230⟩:=hd 2 _ 23 rfl rfl ⟨⟨2,.data⟩,by simp,rfl,rfl⟩;have e23:=(RY.af a 23).trans e230;exact RY.n (RY.p (.int .i64 (m:Int)) (by simp[go_sem,e23]))
    |4,rfl=>
     exact RY.n (RY.p (.bool false) (by simp[execOp,go_sem,RY.E hd 3 24,mG]))
    |5,rfl=>
     exact RY.n (RY.p (.bool false) (by simp[execOp,go_sem,RY.E hd 4 25]))
    |6,rfl=>
     exact RY.on hd 5 26 (RY.p (.pointer (some ⟨b1,1,none⟩)) (by simp[execOp,go_sem,RY.K hk 4 (.pointer (some ⟨b1,0,none⟩))]))
    |7,rfl=>
     exact RY.on hd 5 26 (RY.p (.string x.name) (by simp[execOp,go_sem,RY.E hd 6 27,z1]))
    |8,rfl=>
     have e28:=RY.E hd 7 28;refine RY.on hd 5 26 (.inr ⟨28,#[.string x.name],by simp[go_sem,e28],(Dy.out X).mono ?_⟩);rintro e W' ⟨rfl,rfl⟩;exact⟨_,rfl,zR,rfl⟩
    |9,rfl=>
     exact RY.on hd 5 26 (RY.p (.bool true) (by simp[execOp,go_sem,RY.E hd 8 29]))
    |10,rfl=>
     exact RY.n (RY.p (.bool true) (by simp[execOp,go_sem,RY.E hd 5 26,RY.E hd 9 30]))
    |11,rfl=>
     exact RY.n (RY.p (.bool true) (by simp[execOp,go_sem,RY.E hd 10 31]))
    |12,rfl|13,rfl|14,rfl|15,rfl|16,rfl|17,rfl=>
     exact RY.off hd 11 32
    |18,rfl=>
     exact RY.n (RY.p (.bool true) (by simp[execOp,go_sem,RY.E hd 11 32,RY.E hd 17 38]))
    |19,rfl=>
     exact RY.n (RY.p (.bool true) (by simp[execOp,go_sem,RY.E hd 18 39]))
    |20,rfl|21,rfl|22,rfl|32,rfl=>
     exact RY.off hd 19 40
    |23,rfl|24,rfl|25,rfl|26,rfl|27,rfl|28,rfl|29,rfl|30,rfl|31,rfl=>
     exact RY.C8 hd 22 43
    |33,rfl=>
     exact RY.n (RY.p (.bool true) (by simp[execOp,go_sem,RY.E hd 19 40,RY.E hd 32 53]))
    |n+34,ho=>simp at ho
   intro X vs hX bd;have q54:vs 54=_:=bd 33 _ 54 rfl rfl;simp only[RY.aE,Act.put,List.setIfInBounds_toArray,List.set_cons_zero,List.set_cons_succ];rw[q54];generalize vs 21=s21,vs 22=s22,vs 23=s23,vs 24=s24,vs 25=s25,vs 26=s26,vs 27=s27,vs 28=s28,vs 29=s29,vs 30=s30,vs 31=pY,vs 32=o6,vs 33=og,vs 34=oz,vs 35=k6,vs 36=k9,vs 37=lj,vs 38=lY,vs 39=mu,vs 40=s40,vs 41=s41,vs 42=s42,vs 43=s43,vs 44=s44,vs 45=s45,vs 46=s46,vs 47=s47,vs 48=s48,vs 49=s49,vs 50=qG,vs 51=s51,vs 52=s52,vs 53=s53;clear bd q54;go_wp2;go_ret;exact⟨Pl.aB sW.out.symm,ai Ch.out hX⟩
  have Dy:Hid (∀ X,Calls Try.prog 28 #[.string x.name] X fun e w'=>e=.returned (.bool true)∧X=w'):=DA.out;clear DA;obtain⟨ln,Kx⟩:∃ b,b=Pl.bA x.kind x.lines:=⟨_,rfl⟩
  rw[← Kx]at s4 jC;clear Kx;cases ln
  ·have sW:Hid (Pl.aM s=false):=qA.out (by rw[jC.out];rfl);have lU:Hid (∀ X:World,Bel wq X→Calls Try.prog 29 #[.string x.kind,.slice ax x.lines.length cx] X fun e w'=>e=.returned (.bool false)∧Bel X w'):=s4.out;obtain⟨y,ay,cy,b⟩:Pl.Bl×Option Addr×Nat×Bool:=⟨Pl.aG,none,0,false⟩
   refine RY.aH wq zR (VSc x ax cx m b1) (zB _ _ _ _ _) (by kernel_rfl) (by kernel_rfl) (by kernel_rfl) (by kernel_rfl) ?_ ?_
   ·intro i o' ho a X hX hk hd;have z0:=(fk.out.ae hX).get 0 _ rfl;have z1:=(fk.out.ae hX).get 1 _ rfl;have z2:=(fk.out.ae hX).get 2 _ rfl;have rx:=(fk.out.ae hX).at_;have zb:=(cu.out.ae hX).get 0 _ rfl;match i,ho with
    |0,rfl=>
     exact RY.n (RY.p (.pointer (some ⟨b1,0,none⟩)) (by simp[execOp,go_sem,RY.K hk 4 (.pointer (some ⟨b1,0,none⟩))]))
    |1,rfl=>
     exact RY.n (RY.p (.string x.kind) (by simp[execOp,go_sem,RY.E hd 0 21,z0]))
    |2,rfl=>
     have e22:=RY.E hd 1 22;refine Or.inl ⟨RY.al rfl,Or.inr ⟨23,#[.string x.kind],by simp[go_sem,e22],(vS.out X).mono ?_⟩⟩;rintro e W' ⟨v,F,rfl,hr,_,_,hb⟩;obtain⟨a1,c1,hv⟩:=hr.raw.aP;exact⟨_,rfl,hb,a1,c1,by rw[HM.out];exact hv⟩
    |3,rfl=>
     obtain⟨a1,c1,e230⟩:=hd 2 _ 23 rfl rfl ⟨⟨2,.data⟩,by simp,rfl,rfl⟩;have e23:=(RY.af a 23).trans e230;exact RY.n (RY.p (.int .i64 (m:Int)) (by simp[go_sem,e23]))
    |4,rfl=>
     exact RY.n (RY.p (.bool false) (by simp[execOp,go_sem,RY.E hd 3 24,mG]))
    |5,rfl=>
     exact RY.n (RY.p (.bool false) (by simp[execOp,go_sem,RY.E hd 4 25]))
    |6,rfl=>
     exact RY.on hd 5 26 (RY.p (.pointer (some ⟨b1,1,none⟩)) (by simp[execOp,go_sem,RY.K hk 4 (.pointer (some ⟨b1,0,none⟩))]))
    |7,rfl=>
     exact RY.on hd 5 26 (RY.p (.string x.name) (by simp[execOp,go_sem,RY.E hd 6 27,z1]))
    |8,rfl=>
     have e28:=RY.E hd 7 28;refine RY.on hd 5 26 (.inr ⟨28,#[.string x.name],by simp[go_sem,e28],(Dy.out X).mono ?_⟩);rintro e W' ⟨rfl,rfl⟩;exact⟨_,rfl,zR,rfl⟩
    |9,rfl=>
     exact RY.on hd 5 26 (RY.p (.bool false) (by simp[execOp,go_sem,RY.E hd 8 29]))
    |10,rfl=>
     exact RY.n (RY.p (.bool false) (by simp[execOp,go_sem,RY.E hd 5 26,RY.E hd 9 30]))
    |11,rfl=>
     exact RY.n (RY.p (.bool false) (by simp[execOp,go_sem,RY.E hd 10 31]))
    |12,rfl=>
     exact RY.on hd 11 32 (RY.p (.pointer (some ⟨b1,0,none⟩)) (by simp[execOp,go_sem,RY.K hk 4 (.pointer (some ⟨b1,0,none⟩))]))
    |13,rfl=>
     exact RY.on hd 11 32 (RY.p (.string x.kind) (by simp[execOp,go_sem,RY.E hd 12 33,z0]))
    |14,rfl=>
     exact RY.on hd 11 32 (RY.p (.pointer (some ⟨b1,2,none⟩)) (by simp[execOp,go_sem,RY.K hk 4 (.pointer (some ⟨b1,0,none⟩))]))
    |15,rfl=>
     exact RY.on hd 11 32 (RY.p (.slice ax x.lines.length cx) (by simp[execOp,go_sem,RY.E hd 14 35,z2]))
    |16,rfl=>
     have e34:=RY.E hd 13 34;have e36:=RY.E hd 15 36;refine RY.on hd 11 32 (.inr ⟨29,#[.string x.kind,.slice ax x.lines.length cx],by simp[go_sem,e34,e36],(lU.out X hX).mono ?_⟩);rintro e W' ⟨rfl,hb⟩;exact⟨_,rfl,hb,rfl⟩
    |17,rfl=>
     exact RY.on hd 11 32 (RY.p (.bool true) (by simp[execOp,go_sem,RY.E hd 16 37]))
    |18,rfl=>
     exact RY.n (RY.p (.bool true) (by simp[execOp,go_sem,RY.E hd 11 32,RY.E hd 17 38]))
    |19,rfl=>
     exact RY.n (RY.p (.bool true) (by simp[execOp,go_sem,RY.E hd 18 39]))
    |20,rfl|21,rfl|22,rfl|32,rfl=>
     exact RY.off hd 19 40
    |23,rfl|24,rfl|25,rfl|26,rfl|27,rfl|28,rfl|29,rfl|30,rfl|31,rfl=>
     exact RY.C8 hd 22 43
    |33,rfl=>
     exact RY.n (RY.p (.bool true) (by simp[execOp,go_sem,RY.E hd 19 40,RY.E hd 32 53]))
    |n+34,ho=>simp at ho
   intro X vs hX bd;have q54:vs 54=_:=bd 33 _ 54 rfl rfl;simp only[RY.aE,Act.put,List.setIfInBounds_toArray,List.set_cons_zero,List.set_cons_succ];rw[q54];generalize vs 21=s21,vs 22=s22,vs 23=s23,vs 24=s24,vs 25=s25,vs 26=s26,vs 27=s27,vs 28=s28,vs 29=s29,vs 30=s30,vs 31=pY,vs 32=o6,vs 33=og,vs 34=oz,vs 35=k6,vs 36=k9,vs 37=lj,vs 38=lY,vs 39=mu,vs 40=s40,vs 41=s41,vs 42=s42,vs 43=s43,vs 44=s44,vs 45=s45,vs 46=s46,vs 47=s47,vs 48=s48,vs 49=s49,vs 50=qG,vs 51=s51,vs 52=s52,vs 53=s53;clear bd q54;go_wp2;go_ret;exact⟨Pl.aB sW.out.symm,ai Ch.out hX⟩
  have lU:Hid (∀ X:World,Bel wq X→Calls Try.prog 29 #[.string x.kind,.slice ax x.lines.length cx] X fun e w'=>e=.returned (.bool true)∧Bel X w'):=s4.out;clear s4;by_cases ee:k=0
  ·have jh:¬ 0<k:=by omega
   have J6:decide (k=0)=true:=by simpa using ee
   rw[J6]at jC;clear ee J6;obtain⟨y,ay,cy,b⟩:Pl.Bl×Option Addr×Nat×Bool:=⟨Pl.aG,none,0,false⟩
   refine RY.aH wq zR (VSd x ax cx k m b1) (zC _ _ _ _ _ _) (by kernel_rfl) (by kernel_rfl) (by kernel_rfl) (by kernel_rfl) ?_ ?_
   ·intro i o' ho a X hX hk hd;have z0:=(fk.out.ae hX).get 0 _ rfl;have z1:=(fk.out.ae hX).get 1 _ rfl;have z2:=(fk.out.ae hX).get 2 _ rfl;have rx:=(fk.out.ae hX).at_;have zb:=(cu.out.ae hX).get 0 _ rfl;match i,ho with
    |0,rfl=>
     exact RY.n (RY.p (.pointer (some ⟨b1,0,none⟩)) (by simp[execOp,go_sem,RY.K hk 4 (.pointer (some ⟨b1,0,none⟩))]))
    |1,rfl=>
     exact RY.n (RY.p (.string x.kind) (by simp[execOp,go_sem,RY.E hd 0 21,z0]))
    |2,rfl=>
     have e22:=RY.E hd 1 22;refine Or.inl ⟨RY.al rfl,Or.inr ⟨23,#[.string x.kind],by simp[go_sem,e22],(vS.out X).mono ?_⟩⟩;rintro e W' ⟨v,F,rfl,hr,_,_,hb⟩;obtain⟨a1,c1,hv⟩:=hr.raw.aP;exact⟨_,rfl,hb,a1,c1,by rw[HM.out];exact hv⟩
    |3,rfl=>
     obtain⟨a1,c1,e230⟩:=hd 2 _ 23 rfl rfl ⟨⟨2,.data⟩,by simp,rfl,rfl⟩;have e23:=(RY.af a 23).trans e230;exact RY.n (RY.p (.int .i64 (m:Int)) (by simp[go_sem,e23]))
    |4,rfl=>
     exact RY.n (RY.p (.bool false) (by simp[execOp,go_sem,RY.E hd 3 24,mG]))
    |5,rfl=>
     exact RY.n (RY.p (.bool false) (by simp[execOp,go_sem,RY.E hd 4 25]))
    |6,rfl=>
     exact RY.on hd 5 26 (RY.p (.pointer (some ⟨b1,1,none⟩)) (by simp[execOp,go_sem,RY.K hk 4 (.pointer (some ⟨b1,0,none⟩))]))
    |7,rfl=>
     exact RY.on hd 5 26 (RY.p (.string x.name) (by simp[execOp,go_sem,RY.E hd 6 27,z1]))
    |8,rfl=>
     have e28:=RY.E hd 7 28;refine RY.on hd 5 26 (.inr ⟨28,#[.string x.name],by simp[go_sem,e28],(Dy.out X).mono ?_⟩);rintro e W' ⟨rfl,rfl⟩;exact⟨_,rfl,zR,rfl⟩
    |9,rfl=>
     exact RY.on hd 5 26 (RY.p (.bool false) (by simp[execOp,go_sem,RY.E hd 8 29]))
    |10,rfl=>
     exact RY.n (RY.p (.bool false) (by simp[execOp,go_sem,RY.E hd 5 26,RY.E hd 9 30]))
    |11,rfl=>
     exact RY.n (RY.p (.bool false) (by simp[execOp,go_sem,RY.E hd 10 31]))
    |12,rfl=>
     exact RY.on hd 11 32 (RY.p (.pointer (some ⟨b1,0,none⟩)) (by simp[execOp,go_sem,RY.K hk 4 (.pointer (some ⟨b1,0,none⟩))]))
    |13,rfl=>
     exact RY.on hd 11 32 (RY.p (.string x.kind) (by simp[execOp,go_sem,RY.E hd 12 33,z0]))
    |14,rfl=>
     exact RY.on hd 11 32 (RY.p (.pointer (some ⟨b1,2,none⟩)) (by simp[execOp,go_sem,RY.K hk 4 (.pointer (some ⟨b1,0,none⟩))]))
    |15,rfl=>
     exact RY.on hd 11 32 (RY.p (.slice ax x.lines.length cx) (by simp[execOp,go_sem,RY.E hd 14 35,z2]))
    |16,rfl=>
     have e34:=RY.E hd 13 34;have e36:=RY.E hd 15 36;refine RY.on hd 11 32 (.inr ⟨29,#[.string x.kind,.slice ax x.lines.length cx],by simp[go_sem,e34,e36],(lU.out X hX).mono ?_⟩);rintro e W' ⟨rfl,hb⟩;exact⟨_,rfl,hb,rfl⟩
    |17,rfl=>
     exact RY.on hd 11 32 (RY.p (.bool false) (by simp[execOp,go_sem,RY.E hd 16 37]))
    |18,rfl=>
     exact RY.n (RY.p (.bool false) (by simp[execOp,go_sem,RY.E hd 11 32,RY.E hd 17 38]))
    |19,rfl=>
     exact RY.n (RY.p (.bool false) (by simp[execOp,go_sem,RY.E hd 18 39]))
    |20,rfl=>
     exact RY.on hd 19 40 (RY.p (.int .i64 (k:Int)) (by simp[execOp,go_sem,RY.K hk 3 (.int .i64 (k:Int))]))
    |21,rfl=>
     exact RY.on hd 19 40 (RY.p (.bool false) (by simp[execOp,go_sem,RY.E hd 20 41,jh]))
    |22,rfl=>
     exact RY.on hd 19 40 (RY.p (.bool false) (by simp[execOp,go_sem,RY.E hd 21 42]))
    |23,rfl|24,rfl|25,rfl|26,rfl|27,rfl|28,rfl|29,rfl|30,rfl|31,rfl=>
     exact RY.off hd 22 43
    |32,rfl=>
     exact RY.on hd 19 40 (RY.p (.bool false) (by simp[execOp,go_sem,RY.E hd 22 43,RY.E hd 31 52]))
    |33,rfl=>
     exact RY.n (RY.p (.bool false) (by simp[execOp,go_sem,RY.E hd 19 40,RY.E hd 32 53]))
    |n+34,ho=>simp at ho
   intro X vs hX bd;have q54:vs 54=_:=bd 33 _ 54 rfl rfl;simp only[RY.aE,Act.put,List.setIfInBounds_toArray,List.set_cons_zero,List.set_cons_succ];rw[q54];generalize vs 21=s21,vs 22=s22,vs 23=s23,vs 24=s24,vs 25=s25,vs 26=s26,vs 27=s27,vs 28=s28,vs 29=s29,vs 30=s30,vs 31=pY,vs 32=o6,vs 33=og,vs 34=oz,vs 35=k6,vs 36=k9,vs 37=lj,vs 38=lY,vs 39=mu,vs 40=s40,vs 41=s41,vs 42=s42,vs 43=s43,vs 44=s44,vs 45=s45,vs 46=s46,vs 47=s47,vs 48=s48,vs 49=s49,vs 50=qG,vs 51=s51,vs 52=s52,vs 53=s53;clear bd q54;clear jh mG;have tx:=uh (Pl.ep HI.out (by rw[jC.out];simp));replace Ch:=uh (ai Ch.out hX)
   replace cu:=uh (cu.out.ae hX)
   clear hX;go_wp2;go_roundw
   case rel=>exact⟨k+1,by omega,by go_num,Ch.out,cu.out,tx.out⟩
   case measure=>simp[intOf];omega
  obtain⟨ay,cy,mj⟩:=qO.out (k - 1) (by omega);have J6:decide (k=0)=false:=by simpa using ee
  rw[J6]at jC;obtain⟨y,hy⟩:∃ y,y=s.getD (k - 1) Pl.aG:=⟨_,rfl⟩
  rw[← hy]at mj jC;have xZ:=uh mj;have FZ:=uh (fun X=>lB y x (.slice ay y.lines.length cy) (.slice ax x.lines.length cx) X);obtain⟨b,hb⟩:∃ b,b=Pl.ahead y x:=⟨_,rfl⟩
  rw[← hb]at FZ jC;have HCA:Hid (∀ X,Calls Try.prog 30 #[.agg #[.string y.kind,.string y.name,.slice ay y.lines.length cy],.agg #[.string x.kind,.string x.name,.slice ax x.lines.length cx]] X fun e w'=>e=.returned (.bool b)∧Bel X w'):=FZ.out;have jh:0<k:=by omega
  have GD:IntKind.i64.wrap ((k:Int) - 1)=(k:Int) - 1:=IntWalk.i64_in _ ⟨by omega,by omega⟩;have xN:(1:Int)≤(k:Int):=by omega
  have ld:(k:Int) - 1<(n:Int):=by omega
  have BO:((k:Int) - 1).toNat=k - 1:=by omega
  clear mj hy hb FZ J6 ee;refine RY.aH wq zR (VSe x y ax ay cx cy p o n vc k m b0 b1 b) (Az _ _ _ _ _ _ _ _ _ _ _ _ _ _ _) (by kernel_rfl) (by kernel_rfl) (by kernel_rfl) (by kernel_rfl) ?_ ?_
  ·intro i o' ho a X hX hk hd;have z0:=(fk.out.ae hX).get 0 _ rfl;have z1:=(fk.out.ae hX).get 1 _ rfl;have z2:=(fk.out.ae hX).get 2 _ rfl;have rx:=(fk.out.ae hX).at_;have zb:=(cu.out.ae hX).get 0 _ rfl;have ry:=aA xZ.out HP.out hX;match i,ho with
   |0,rfl=>
    exact RY.n (RY.p (.pointer (some ⟨b1,0,none⟩)) (by simp[execOp,go_sem,RY.K hk 4 (.pointer (some ⟨b1,0,none⟩))]))
   |1,rfl=>
    exact RY.n (RY.p (.string x.kind) (by simp[execOp,go_sem,RY.E hd 0 21,z0]))
   |2,rfl=>
    have e22:=RY.E hd 1 22;refine Or.inl ⟨RY.al rfl,Or.inr ⟨23,#[.string x.kind],by simp[go_sem,e22],(vS.out X).mono ?_⟩⟩;rintro e W' ⟨v,F,rfl,hr,_,_,hb⟩;obtain⟨a1,c1,hv⟩:=hr.raw.aP;exact⟨_,rfl,hb,a1,c1,by rw[HM.out];exact hv⟩
   |3,rfl=>
    obtain⟨a1,c1,e230⟩:=hd 2 _ 23 rfl rfl ⟨⟨2,.data⟩,by simp,rfl,rfl⟩;have e23:=(RY.af a 23).trans e230;exact RY.n (RY.p (.int .i64 (m:Int)) (by simp[go_sem,e23]))
   |4,rfl=>
    exact RY.n (RY.p (.bool false) (by simp[execOp,go_sem,RY.E hd 3 24,mG]))
   |5,rfl=>
    exact RY.n (RY.p (.bool false) (by simp[execOp,go_sem,RY.E hd 4 25]))
   |6,rfl=>
    exact RY.on hd 5 26 (RY.p (.pointer (some ⟨b1,1,none⟩)) (by simp[execOp,go_sem,RY.K hk 4 (.pointer (some ⟨b1,0,none⟩))]))
   |7,rfl=>
    exact RY.on hd 5 26 (RY.p (.string x.name) (by simp[execOp,go_sem,RY.E hd 6 27,z1]))
   |8,rfl=>
    have e28:=RY.E hd 7 28;refine RY.on hd 5 26 (.inr ⟨28,#[.string x.name],by simp[go_sem,e28],(Dy.out X).mono ?_⟩);rintro e W' ⟨rfl,rfl⟩;exact⟨_,rfl,zR,rfl⟩
   |9,rfl=>
    exact RY.on hd 5 26 (RY.p (.bool false) (by simp[execOp,go_sem,RY.E hd 8 29]))
   |10,rfl=>
    exact RY.n (RY.p (.bool false) (by simp[execOp,go_sem,RY.E hd 5 26,RY.E hd 9 30]))
   |11,rfl=>
    exact RY.n (RY.p (.bool false) (by simp[execOp,go_sem,RY.E hd 10 31]))
   |12,rfl=>
    exact RY.on hd 11 32 (RY.p (.pointer (some ⟨b1,0,none⟩)) (by simp[execOp,go_sem,RY.K hk 4 (.pointer (some ⟨b1,0,none⟩))]))
   |13,rfl=>
    exact RY.on hd 11 32 (RY.p (.string x.kind) (by simp[execOp,go_sem,RY.E hd 12 33,z0]))
   |14,rfl=>
    exact RY.on hd 11 32 (RY.p (.pointer (some ⟨b1,2,none⟩)) (by simp[execOp,go_sem,RY.K hk 4 (.pointer (some ⟨b1,0,none⟩))]))
   |15,rfl=>
    exact RY.on hd 11 32 (RY.p (.slice ax x.lines.length cx) (by simp[execOp,go_sem,RY.E hd 14 35,z2]))
   |16,rfl=>
    have e34:=RY.E hd 13 34;have e36:=RY.E hd 15 36;refine RY.on hd 11 32 (.inr ⟨29,#[.string x.kind,.slice ax x.lines.length cx],by simp[go_sem,e34,e36],(lU.out X hX).mono ?_⟩);rintro e W' ⟨rfl,hb⟩;exact⟨_,rfl,hb,rfl⟩
   |17,rfl=>
    exact RY.on hd 11 32 (RY.p (.bool false) (by simp[execOp,go_sem,RY.E hd 16 37]))
   |18,rfl=>
    exact RY.n (RY.p (.bool false) (by simp[execOp,go_sem,RY.E hd 11 32,RY.E hd 17 38]))
   |19,rfl=>
    exact RY.n (RY.p (.bool false) (by simp[execOp,go_sem,RY.E hd 18 39]))
   |20,rfl=>
    exact RY.on hd 19 40 (RY.p (.int .i64 (k:Int)) (by simp[execOp,go_sem,RY.K hk 3 (.int .i64 (k:Int))]))
   |21,rfl=>
    exact RY.on hd 19 40 (RY.p (.bool true) (by simp[execOp,go_sem,RY.E hd 20 41,jh]))
   |22,rfl=>
    exact RY.on hd 19 40 (RY.p (.bool true) (by simp[execOp,go_sem,RY.E hd 21 42]))
   |23,rfl=>
    exact RY.on hd 22 43 (RY.p (.pointer (some ⟨b0,0,none⟩)) (by simp[execOp,go_sem,RY.K hk 1 (.pointer (some ⟨b0,0,none⟩))]))
   |24,rfl=>
    exact RY.on hd 22 43 (RY.p (.slice (some ⟨p,o,none⟩) n vc) (by simp[execOp,go_sem,RY.E hd 23 44,zb]))
   |25,rfl=>
    exact RY.on hd 22 43 (RY.p (.int .i64 (k:Int)) (by simp[execOp,go_sem,RY.K hk 3 (.int .i64 (k:Int))]))
   |26,rfl=>
    exact RY.on hd 22 43 (RY.p (.int .i64 ((k:Int) - 1)) (by simp[execOp,go_sem,RY.E hd 25 46,GD]))
   |27,rfl=>
    exact RY.on hd 22 43 (RY.p (.pointer (some ⟨p,o+(k - 1)*3,none⟩)) (by simp[execOp,go_sem,RY.E hd 24 45,RY.E hd 26 47,xN,ld,BO]))
   |28,rfl=>
    have gd:=hd 22 _ 43 rfl rfl ⟨⟨22,.guard⟩,by simp,rfl,rfl⟩;exact Or.inl ⟨(RY.ak rfl rfl rfl gd).trans rfl,Or.inl ⟨.agg #[.string y.kind,.string y.name,.slice ay y.lines.length cy],X,aq 32 _ rfl p (o+(k - 1)*3) ((RY.af a 48).symm.trans (RY.E hd 27 48)) [.string y.kind,.string y.name,.slice ay y.lines.length cy] _ ry Try.underlying32 rfl (by kernel_rfl),zR,rfl⟩⟩
   |29,rfl=>
    have gd:=hd 22 _ 43 rfl rfl ⟨⟨22,.guard⟩,by simp,rfl,rfl⟩;exact Or.inl ⟨(RY.ak rfl rfl rfl gd).trans rfl,Or.inl ⟨.agg #[.string x.kind,.string x.name,.slice ax x.lines.length cx],X,aq 32 _ rfl b1 0 ((RY.af a 4).symm.trans (RY.K hk 4 (.pointer (some ⟨b1,0,none⟩)))) [.string x.kind,.string x.name,.slice ax x.lines.length cx] _ rx Try.underlying32 rfl (by kernel_rfl),zR,rfl⟩⟩
   |30,rfl=>
    have e49:=RY.E hd 28 49;have e50:=RY.E hd 29 50;refine RY.on hd 22 43 (.inr ⟨30,#[.agg #[.string y.kind,.string y.name,.slice ay y.lines.length cy],.agg #[.string x.kind,.string x.name,.slice ax x.lines.length cx]],by simp[go_sem,e49,e50],(HCA.out X).mono ?_⟩);rintro e W' ⟨rfl,hb⟩;exact⟨_,rfl,hb,rfl⟩
   |31,rfl=>
    exact RY.on hd 22 43 (RY.p (.bool (!b)) (by simp[execOp,go_sem,RY.E hd 30 51]))
   |32,rfl=>
    exact RY.on hd 19 40 (RY.p (.bool (!b)) (by simp[execOp,go_sem,RY.E hd 22 43,RY.E hd 31 52]))
   |33,rfl=>
    exact RY.n (RY.p (.bool (!b)) (by simp[execOp,go_sem,RY.E hd 19 40,RY.E hd 32 53]))
   |n+34,ho=>simp at ho
  intro X vs hX bd;have q54:vs 54=_:=bd 33 _ 54 rfl rfl;simp only[RY.aE,Act.put,List.setIfInBounds_toArray,List.set_cons_zero,List.set_cons_succ];rw[q54];generalize vs 21=s21,vs 22=s22,vs 23=s23,vs 24=s24,vs 25=s25,vs 26=s26,vs 27=s27,vs 28=s28,vs 29=s29,vs 30=s30,vs 31=pY,vs 32=o6,vs 33=og,vs 34=oz,vs 35=k6,vs 36=k9,vs 37=lj,vs 38=lY,vs 39=mu,vs 40=s40,vs 41=s41,vs 42=s42,vs 43=s43,vs 44=s44,vs 45=s45,vs 46=s46,vs 47=s47,vs 48=s48,vs 49=s49,vs 50=qG,vs 51=s51,vs 52=s52,vs 53=s53;clear bd q54;clear jh mG GD xN ld BO;cases b
  ·have sW:Hid (Pl.aM s=false):=qA.out (by rw[jC.out];rfl);go_wp2;go_ret;exact⟨Pl.aB sW.out.symm,ai Ch.out hX⟩
  ·skip
   have tx:=uh (Pl.ep HI.out (by rw[jC.out];simp));replace Ch:=uh (ai Ch.out hX)
   replace cu:=uh (cu.out.ae hX)
   clear hX;go_wp2;go_roundw
   case rel=>exact⟨k+1,by omega,by go_num,Ch.out,cu.out,tx.out⟩
   case measure=>simp[intOf];omega
end Go.Proofs.Ytmgibmmpopoboaa
