import Derived.BigFrame
import Derived.Test.YtopjjknojnfhmaaGreatDoorELa
import Derived.Test.YtopjjknojnfhmaaGreatDoorRgG
namespace Go.Proofs.YtopjjknojnfhmaaGreatDoor
set_option maxRecDepth 8000
set_option maxHeartbeats 40000000
open Go.RowKit Go.Deep
theorem Gu {kind key:ByteArray} {ws:List ByteArray} (h:Pl.bh kind key ws=true):∃ j,Pl.bC (Pl.ai kind) key=some j∧j<(Pl.ai kind).length:=by
 unfold Pl.bh at h;cases e:Pl.bC (Pl.ai kind) key with
 |none=>rw[e]at h;cases h
 |some j=>exact⟨j,rfl,Pl.iZ e⟩
theorem j7 {W X:World} {L:List Pl.Ln} {p o:Nat} (h:∀ k,k<L.length→∃ a c',W.rangeAt p (o+k*2) [.string (L.getD k Pl.aK).key,.slice a (L.getD k Pl.aK).ws.length c']∧Raw W bB [.row (L.getD k Pl.aK).ws.length (txD (L.getD k Pl.aK).ws)] [.slice a (L.getD k Pl.aK).ws.length c']) (hp:p<W.heap.size) (hX:Bel W X):
  ∀ k,k<L.length→∃ a c',X.rangeAt p (o+k*2) [.string (L.getD k Pl.aK).key,.slice a (L.getD k Pl.aK).ws.length c']∧Raw X bB [.row (L.getD k Pl.aK).ws.length (txD (L.getD k Pl.aK).ws)] [.slice a (L.getD k Pl.aK).ws.length c']:=fun k hk=>by
 obtain⟨a,c',h1,h2⟩:=h k hk;exact⟨a,c',aB h1 hp hX,h2.later hX⟩
theorem uz {L:List Pl.Ln} {i:Nat} (h:i<L.length) (key:ByteArray):Pl.aI (L.take (i+1)) key=Pl.aI (L.take i) key+if Pl.dD (L.getD i Pl.aK).key key then 1 else 0:=by
 have e:L.getD i Pl.aK=L[i]:=by simp[h]
 unfold Pl.aI;rw[List.take_succ_eq_append_getElem h,List.countP_append,← e];simp[List.countP_cons]
def VLf (kd:ByteArray) (x:Pl.Ln) (ax:Option Addr) (cx:Nat) (p:Nat) (o:Nat) (n:Nat) (vc:Nat) (k:Nat) (jj:Nat) (u:Value) (_:World):Prop:=match jj with
 |0=>u=.string kd
 |1|6=>u=.slice (some ⟨p,o,none⟩) n vc
 |2|7=>u=.int .i64 (k:Int)
 |3|4|8=>u=.pointer (some ⟨p,o+k*2,none⟩)
 |5=>u=.string x.key
 |9=>u=.pointer (some ⟨p,o+k*2+1,none⟩)
 |10=>u=.slice ax x.ws.length cx
 |11=>u=.bool false
 |12|13|30=>u=.bool true
 |14|15|16|17|18|19|20|21|22|23|24|25|26|27|28|29=>u=undef
 |_=>True
theorem CK (kd:ByteArray) (x:Pl.Ln) (ax:Option Addr) (cx:Nat) (p:Nat) (o:Nat) (n:Nat) (vc:Nat) (k:Nat):∀ jj u W W',Bel W W'→VLf kd x ax cx p o n vc k jj u W→VLf kd x ax cx p o n vc k jj u W':=fun _ _ _ _ _ h=>h
def VLz (kd:ByteArray) (x:Pl.Ln) (ax:Option Addr) (cx:Nat) (p:Nat) (o:Nat) (n:Nat) (vc:Nat) (k:Nat) (jj:Nat) (u:Value) (_:World):Prop:=match jj with
 |0=>u=.string kd
 |1|6=>u=.slice (some ⟨p,o,none⟩) n vc
 |2|7|14=>u=.int .i64 (k:Int)
 |3|4|8=>u=.pointer (some ⟨p,o+k*2,none⟩)
 |5=>u=.string x.key
 |9=>u=.pointer (some ⟨p,o+k*2+1,none⟩)
 |10=>u=.slice ax x.ws.length cx
 |11=>u=.bool true
 |12|13|15|16|29|30=>u=.bool false
 |17|18|19|20|21|22|23|24|25|26|27|28=>u=undef
 |_=>True
theorem CT (kd:ByteArray) (x:Pl.Ln) (ax:Option Addr) (cx:Nat) (p:Nat) (o:Nat) (n:Nat) (vc:Nat) (k:Nat):∀ jj u W W',Bel W W'→VLz kd x ax cx p o n vc k jj u W→VLz kd x ax cx p o n vc k jj u W':=fun _ _ _ _ _ h=>h
def VLp (kd:ByteArray) (x:Pl.Ln) (y:Pl.Ln) (ax:Option Addr) (ay:Option Addr) (cx:Nat) (cy:Nat) (p:Nat) (o:Nat) (n:Nat) (vc:Nat) (k:Nat) (b:Bool) (jj:Nat) (u:Value) (_:World):Prop:=match jj with
 |0|17=>u=.string kd
 |1|6|18|23=>u=.slice (some ⟨p,o,none⟩) n vc
 |2|7|14|19|24=>u=.int .i64 (k:Int)
 |3|4|8|25=>u=.pointer (some ⟨p,o+k*2,none⟩)
 |5=>u=.string x.key
 |9=>u=.pointer (some ⟨p,o+k*2+1,none⟩)
 |10=>u=.slice ax x.ws.length cx
 |11|15|16=>u=.bool true
 |12|13=>u=.bool false
 |20=>u=.int .i64 ((k:Int) - 1)
 |21=>u=.pointer (some ⟨p,o+(k - 1)*2,none⟩)
 |22=>u=.agg #[.string y.key,.slice ay y.ws.length cy]
 |26=>u=.agg #[.string x.key,.slice ax x.ws.length cx]
 |27=>u=.bool b
 |28|29|30=>u=.bool (!b)
 |_=>True
theorem Ed (kd:ByteArray) (x:Pl.Ln) (y:Pl.Ln) (ax:Option Addr) (ay:Option Addr) (cx:Nat) (cy:Nat) (p:Nat) (o:Nat) (n:Nat) (vc:Nat) (k:Nat) (b:Bool):∀ jj u W W',Bel W W'→VLp kd x y ax ay cx cy p o n vc k b jj u W→VLp kd x y ax ay cx cy p o n vc k b jj u W':=fun _ _ _ _ _ h=>h
def VLm (kd:ByteArray) (x:Pl.Ln) (p:Nat) (o:Nat) (n:Nat) (vc:Nat) (k:Nat) (j:Nat) (m:Nat) (mn:Bool) (jj:Nat) (u:Value) (W:World):Prop:=match jj with
 |0|2=>u=.string kd
 |1=>∃ q oo cc,u=.slice (some ⟨q,oo,none⟩) m cc∧q<W.heap.size∧W.cell? ⟨q,oo+j*4+2,none⟩=some (.bool mn)
 |3=>u=.slice (some ⟨p,o,none⟩) n vc
 |4=>u=.int .i64 (k:Int)
 |5|6=>u=.pointer (some ⟨p,o+k*2,none⟩)
 |7=>u=.string x.key
 |8=>u=.int .i64 (j:Int)
 |9=>∃ q oo,u=.pointer (some ⟨q,oo+j*4,none⟩)∧q<W.heap.size∧W.cell? ⟨q,oo+j*4+2,none⟩=some (.bool mn)
 |10=>∃ q oo,u=.pointer (some ⟨q,oo+j*4+2,none⟩)∧q<W.heap.size∧W.cell? ⟨q,oo+j*4+2,none⟩=some (.bool mn)
 |11|12=>u=.bool mn
 |_=>True
theorem vS (kd:ByteArray) (x:Pl.Ln) (p:Nat) (o:Nat) (n:Nat) (vc:Nat) (k:Nat) (j:Nat) (m:Nat) (mn:Bool):∀ jj u W W',Bel W W'→VLm kd x p o n vc k j m mn jj u W→VLm kd x p o n vc k j m mn jj u W':=by
 intro jj u W W' hb h;match jj with
 |0|2|3|4|5|6|7|8|11|12=>exact h
 |1=>
  obtain⟨q,oo,cc,e,hq,hc⟩:=h;exact⟨q,oo,cc,e,zL hq hb.size,(hb.cell (p:=⟨q,oo+j*4+2,none⟩) hq).trans hc⟩
 |9|10=>
  obtain⟨q,oo,e,hq,hc⟩:=h;exact⟨q,oo,e,zL hq hb.size,(hb.cell (p:=⟨q,oo+j*4+2,none⟩) hq).trans hc⟩
 |n+13=>exact trivial
theorem uH (kd:ByteArray) (L:List Pl.Ln) (v:Value) (w:World) (h:Raw w bF [bT L] [v]) (hz:∀ x∈L,∀ s∈x.ws,s.size≤maxLen):
  Calls Tryz.prog 29 #[.string kd,v] w fun e w'=>e=.returned (.bool (Pl.bU kd L))∧Bel w w':=by
 have HL:=uh h;have HZ:=uh hz;obtain⟨va,vc,ev⟩:=h.bm;subst ev;have HR:Hid (Pl.bU kd L=(List.range L.length).all (Pl.dj kd L)):=rfl;clear h hz;obtain⟨n,hn⟩:∃ n,n=L.length:=⟨_,rfl⟩
 have HN:=uh hn;rw[← hn]at HR;have qs:L.length=n:=hn.symm;clear hn;rw[qs];go_enter Tryz.func29,Tryz.ntmps29
 clear qs;go_wp2;go_loopw [5] (fun i wr=>∃ k:Nat,k≤n∧i=.int .i64 k∧Bel w wr∧(List.range k).all (Pl.dj kd L)=true) (fun i _=>n - (intOf i).toNat)
 case atStart=>exact⟨0,zN,rfl,zR,rfl⟩
 case round=>
  obtain⟨k,hk,rfl,hW,hI⟩:=hrel;have HW:=uh hW;have HI:=uh hI;clear hW hI;by_cases bd:k<n
  rotate_left
  ·obtain rfl:k=n:=by omega
   go_wp2;go_ret;exact⟨Pl.aq (by rw[HR.out,HI.out]),HW.out⟩
  have iF:k<L.length:=by have:=HN.out;omega
  rcases cE (HL.out.later HW.out) with⟨e0,_⟩|⟨p,o,c,hv,hp,fK,aO⟩
  ·omega
  rw[← HN.out]at hv fK;injection hv with g1 _ g3
  subst g1;subst g3;unfold maxLen at fK;obtain⟨ax,cx,jf,fe⟩:=aO k iF;have su:=uh aO;have tN:=uh (fun h=>(HR.out.trans (Pl.fv bd h)));have kf:Hid (Pl.dj kd L k=(Pl.bh kd (L.getD k Pl.aK).key (L.getD k Pl.aK).ws&&(decide (k=0)||Pl.aL kd (L.getD (k - 1) Pl.aK) (L.getD k Pl.aK))&&Pl.gy (Pl.fp kd (L.getD k Pl.aK).key) (Pl.aI (L.take (k+1)) (L.getD k Pl.aK).key))):=rfl;obtain⟨x,hx⟩:∃ x,x=L.getD k Pl.aK:=⟨_,rfl⟩
  have Py:∀ s∈x.ws,s.size≤maxLen:=by
   have e:L.getD k Pl.aK=L[k]:=by simp[iF]
   rw[hx,e];exact HZ.out _ (List.getElem_mem iF)
  rw[← hx]at jf fe kf;have fg:=uh jf;have JH:=uh fe;have HP:=uh hp;have Q5:=uh hx;have ec:(0:Int)≤(k:Int):=by omega
  have dP:(k:Int)<(n:Int):=by omega
  have Hr:=uh (fun (X:World) (hX:Bel wr X)=>xD kd x.key x.ws (.slice ax x.ws.length cx) X (JH.out.later hX) Py);have IH:=uh (fun h=> @Gu kd x.key x.ws h);obtain⟨fit,nL⟩:∃ f,f=Pl.bh kd x.key x.ws:=⟨_,rfl⟩
  rw[← nL]at Hr kf IH;clear nL Py hx jf fe aO;cases fit
  ·have BP:Hid (∀ X:World,Bel wr X→Calls Tryz.prog 53 #[.string kd,.string x.key,.slice ax x.ws.length cx] X fun e w'=>e=.returned (.bool false)∧Bel X w'):=Hr.out;have nK:Hid (∀ X:World,Bel wr X→True):=fun _ _=>trivial;obtain⟨y,ay,cy,b⟩:Pl.Ln×Option Addr×Nat×Bool:=⟨Pl.aK,none,0,false⟩
   have wE:Hid (Pl.bU kd L=false):=tN.out (by rw[kf.out];rfl);go_upto_region 4 with fail
   refine RY.aH wr zR (VLf kd x ax cx p o n vc k) (CK _ _ _ _ _ _ _ _ _) (by kernel_rfl) (by kernel_rfl) (by kernel_rfl) (by kernel_rfl) ?_ ?_
   ·intro i o' ho a X hX hk hd;have yx0:X.cell? ⟨p,o+k*2,none⟩=some (.string x.key):=(hX.cell (p:=⟨p,o+k*2,none⟩) HP.out).trans (aE fg.out 0 _ rfl);have yx1:X.cell? ⟨p,o+k*2+1,none⟩=some (.slice ax x.ws.length cx):=(hX.cell (p:=⟨p,o+k*2+1,none⟩) HP.out).trans (aE fg.out 1 _ rfl);have rx:=aB fg.out HP.out hX;match i,ho with
    |0,rfl=>
     exact RY.n (RY.p (.string kd) (by simp[execOp,go_sem,RY.K hk 0 (.string kd)]))
    |1,rfl|6,rfl=>
     exact RY.n (RY.p (.slice (some ⟨p,o,none⟩) n vc) (by simp[execOp,go_sem,RY.K hk 1 (.slice (some ⟨p,o,none⟩) n vc)]))
    |2,rfl|7,rfl=>
     exact RY.n (RY.p (.int .i64 (k:Int)) (by simp[execOp,go_sem,RY.K hk 5 (.int .i64 (k:Int))]))
    |3,rfl=>
     exact RY.n (RY.p (.pointer (some ⟨p,o+k*2,none⟩)) (by simp[execOp,go_sem,RY.E hd 1 16,RY.E hd 2 17,ec,dP]))
    |4,rfl=>
     exact RY.n (RY.p (.pointer (some ⟨p,o+k*2,none⟩)) (by simp[execOp,go_sem,RY.E hd 3 18]))
    |5,rfl=>
     exact RY.n (RY.p (.string x.key) (by simp[execOp,go_sem,RY.E hd 4 19,yx0]))
    |8,rfl=>
     exact RY.n (RY.p (.pointer (some ⟨p,o+k*2,none⟩)) (by simp[execOp,go_sem,RY.E hd 6 21,RY.E hd 7 22,ec,dP]))
    |9,rfl=>
     exact RY.n (RY.p (.pointer (some ⟨p,o+k*2+1,none⟩)) (by simp[execOp,go_sem,RY.E hd 8 23]))
    |10,rfl=>
     exact RY.n (RY.p (.slice ax x.ws.length cx) (by simp[execOp,go_sem,RY.E hd 9 24,yx1]))
    |11,rfl=>
     have e15:=RY.E hd 0 15;have e20:=RY.E hd 5 20;have e25:=RY.E hd 10 25;refine Or.inl ⟨RY.au rfl,Or.inr ⟨53,#[.string kd,.string x.key,.slice ax x.ws.length cx],by simp[go_sem,e15,e20,e25],(BP.out X hX).mono ?_⟩⟩;rintro e W' ⟨rfl,hb⟩;exact⟨_,rfl,hb,rfl⟩
    |12,rfl=>
     exact RY.n (RY.p (.bool true) (by simp[execOp,go_sem,RY.E hd 11 26]))
    |13,rfl=>
     exact RY.n (RY.p (.bool true) (by simp[execOp,go_sem,RY.E hd 12 27]))
    |14,rfl|15,rfl|16,rfl|29,rfl=>
     exact RY.off hd 13 28
    |17,rfl|18,rfl|19,rfl|20,rfl|21,rfl|22,rfl|23,rfl|24,rfl|25,rfl|26,rfl|27,rfl|28,rfl=>
     exact RY.GU hd 16 31
    |30,rfl=>
     exact RY.n (RY.p (.bool true) (by simp[execOp,go_sem,RY.E hd 13 28,RY.E hd 29 44]))
    |n+31,ho=>simp at ho
   intro X vs hX bg;have q45:vs 45=_:=bg 30 _ 45 rfl rfl;simp only[RY.aC,Act.put,List.setIfInBounds_toArray,List.set_cons_zero,List.set_cons_succ];rw[q45];generalize vs 15=s15,vs 16=s16,vs 17=s17,vs 18=s18,vs 19=s19,vs 20=s20,vs 21=s21,vs 22=s22,vs 23=s23,vs 24=s24,vs 25=s25,vs 26=s26,vs 27=s27,vs 28=s28,vs 29=s29,vs 30=s30,vs 31=sr,vs 32=qw,vs 33=qM,vs 34=qX,vs 35=lN,vs 36=lI,vs 37=lR,vs 38=nu,vs 39=nS,vs 40=s40,vs 41=s41,vs 42=s42,vs 43=s43,vs 44=s44;clear bg q45;go_wp2;go_ret;exact⟨Pl.aq wE.out.symm,ah HW.out hX⟩
  have BP:Hid (∀ X:World,Bel wr X→Calls Tryz.prog 53 #[.string kd,.string x.key,.slice ax x.ws.length cx] X fun e w'=>e=.returned (.bool true)∧Bel X w'):=Hr.out;clear Hr;obtain⟨j,BB,Ji⟩:=IH.out rfl;have Jv:Hid (Pl.bC (Pl.ai kd) x.key=some j∧j<(Pl.ai kd).length):=⟨BB,Ji⟩
  clear IH BB Ji;by_cases ga:k=0
  rotate_left
  ·obtain⟨ay,cy,nx,qP⟩:=su.out (k - 1) (by omega);obtain⟨y,hy⟩:∃ y,y=L.getD (k - 1) Pl.aK:=⟨_,rfl⟩
   rw[← hy]at nx qP kf;have FN:=uh nx;have Jg:=uh qP;have wB:=uh (fun (X:World) (hX:Bel wr X)=>iP kd y x ay ax cy cx X (Jg.out.later hX) (JH.out.later hX));obtain⟨b,hb⟩:∃ b,b=Pl.aL kd y x:=⟨_,rfl⟩
   rw[← hb]at wB kf;have nK:Hid (∀ X:World,Bel wr X→Calls Tryz.prog 34 #[.string kd,.agg #[.string y.key,.slice ay y.ws.length cy],.agg #[.string x.key,.slice ax x.ws.length cx]] X fun e w'=>e=.returned (.bool b)∧Bel X w'):=wB.out;have Q1:(0:Int)<(k:Int):=by omega
   have jN:0<k:=by omega
   have LY:IntKind.i64.wrap ((k:Int) - 1)=(k:Int) - 1:=IntWalk.i64_in _ ⟨by omega,by omega⟩;have oJ:(1:Int)≤(k:Int):=by omega
   have qj:(k:Int) - 1<(n:Int):=by omega
   have M6:((k:Int) - 1).toNat=k - 1:=by omega
   have dJ:decide (k=0)=false:=by simpa using ga
   rw[dJ]at kf;clear nx qP hy hb wB;go_upto_region 4 with fail
   refine RY.aH wr zR (VLp kd x y ax ay cx cy p o n vc k b) (Ed _ _ _ _ _ _ _ _ _ _ _ _ _) (by kernel_rfl) (by kernel_rfl) (by kernel_rfl) (by kernel_rfl) ?_ ?_
   ·intro i o' ho a X hX hk hd;have yx0:X.cell? ⟨p,o+k*2,none⟩=some (.string x.key):=(hX.cell (p:=⟨p,o+k*2,none⟩) HP.out).trans (aE fg.out 0 _ rfl);have yx1:X.cell? ⟨p,o+k*2+1,none⟩=some (.slice ax x.ws.length cx):=(hX.cell (p:=⟨p,o+k*2+1,none⟩) HP.out).trans (aE fg.out 1 _ rfl);have rx:=aB fg.out HP.out hX;have ry:=aB FN.out HP.out hX;match i,ho with
    |0,rfl=>
     exact RY.n (RY.p (.string kd) (by simp[execOp,go_sem,RY.K hk 0 (.string kd)]))
    |1,rfl|6,rfl=>
     exact RY.n (RY.p (.slice (some ⟨p,o,none⟩) n vc) (by simp[execOp,go_sem,RY.K hk 1 (.slice (some ⟨p,o,none⟩) n vc)]))
    |2,rfl|7,rfl=>
     exact RY.n (RY.p (.int .i64 (k:Int)) (by simp[execOp,go_sem,RY.K hk 5 (.int .i64 (k:Int))]))
    |3,rfl=>
     exact RY.n (RY.p (.pointer (some ⟨p,o+k*2,none⟩)) (by simp[execOp,go_sem,RY.E hd 1 16,RY.E hd 2 17,ec,dP]))
    |4,rfl=>
     exact RY.n (RY.p (.pointer (some ⟨p,o+k*2,none⟩)) (by simp[execOp,go_sem,RY.E hd 3 18]))
    |5,rfl=>
     exact RY.n (RY.p (.string x.key) (by simp[execOp,go_sem,RY.E hd 4 19,yx0]))
    |8,rfl=>
     exact RY.n (RY.p (.pointer (some ⟨p,o+k*2,none⟩)) (by simp[execOp,go_sem,RY.E hd 6 21,RY.E hd 7 22,ec,dP]))
    |9,rfl=>
     exact RY.n (RY.p (.pointer (some ⟨p,o+k*2+1,none⟩)) (by simp[execOp,go_sem,RY.E hd 8 23]))
    |10,rfl=>
     exact RY.n (RY.p (.slice ax x.ws.length cx) (by simp[execOp,go_sem,RY.E hd 9 24,yx1]))
    |11,rfl=>
     have e15:=RY.E hd 0 15;have e20:=RY.E hd 5 20;have e25:=RY.E hd 10 25;refine Or.inl ⟨RY.au rfl,Or.inr ⟨53,#[.string kd,.string x.key,.slice ax x.ws.length cx],by simp[go_sem,e15,e20,e25],(BP.out X hX).mono ?_⟩⟩;rintro e W' ⟨rfl,hb⟩;exact⟨_,rfl,hb,rfl⟩
    |12,rfl=>
     exact RY.n (RY.p (.bool false) (by simp[execOp,go_sem,RY.E hd 11 26]))
    |13,rfl=>
     exact RY.n (RY.p (.bool false) (by simp[execOp,go_sem,RY.E hd 12 27]))
    |14,rfl=>
     exact RY.on hd 13 28 (RY.p (.int .i64 (k:Int)) (by simp[execOp,go_sem,RY.K hk 5 (.int .i64 (k:Int))]))
    |15,rfl=>
     exact RY.on hd 13 28 (RY.p (.bool true) (by simp[execOp,go_sem,RY.E hd 14 29,jN]))
    |16,rfl=>
     exact RY.on hd 13 28 (RY.p (.bool true) (by simp[execOp,go_sem,RY.E hd 15 30]))
    |17,rfl=>
     exact RY.on hd 16 31 (RY.p (.string kd) (by simp[execOp,go_sem,RY.K hk 0 (.string kd)]))
    |18,rfl|23,rfl=>
     exact RY.on hd 16 31 (RY.p (.slice (some ⟨p,o,none⟩) n vc) (by simp[execOp,go_sem,RY.K hk 1 (.slice (some ⟨p,o,none⟩) n vc)]))
    |19,rfl|24,rfl=>
     exact RY.on hd 16 31 (RY.p (.int .i64 (k:Int)) (by simp[execOp,go_sem,RY.K hk 5 (.int .i64 (k:Int))]))
    |20,rfl=>
     exact RY.on hd 16 31 (RY.p (.int .i64 ((k:Int) - 1)) (by simp[execOp,go_sem,RY.E hd 19 34,LY]))
    |21,rfl=>
     exact RY.on hd 16 31 (RY.p (.pointer (some ⟨p,o+(k - 1)*2,none⟩)) (by simp[execOp,go_sem,RY.E hd 18 33,RY.E hd 20 35,oJ,qj,M6]))
    |22,rfl=>
     have gd:=hd 16 _ 31 rfl rfl ⟨⟨16,.guard⟩,by simp,rfl,rfl⟩;exact Or.inl ⟨(RY.aj rfl rfl rfl gd).trans rfl,Or.inl ⟨.agg #[.string y.key,.slice ay y.ws.length cy],X,ar 46 _ rfl p (o+(k - 1)*2) ((RY.af a 36).symm.trans (RY.E hd 21 36)) [.string y.key,.slice ay y.ws.length cy] _ ry Tryz.underlying46 rfl (by kernel_rfl),zR,rfl⟩⟩
    |25,rfl=>
     exact RY.on hd 16 31 (RY.p (.pointer (some ⟨p,o+k*2,none⟩)) (by simp[execOp,go_sem,RY.E hd 23 38,RY.E hd 24 39,ec,dP]))
    |26,rfl=>
     have gd:=hd 16 _ 31 rfl rfl ⟨⟨16,.guard⟩,by simp,rfl,rfl⟩;exact Or.inl ⟨(RY.aj rfl rfl rfl gd).trans rfl,Or.inl ⟨.agg #[.string x.key,.slice ax x.ws.length cx],X,ar 46 _ rfl p (o+k*2) ((RY.af a 40).symm.trans (RY.E hd 25 40)) [.string x.key,.slice ax x.ws.length cx] _ rx Tryz.underlying46 rfl (by kernel_rfl),zR,rfl⟩⟩
    |27,rfl=>
     have e32:=RY.E hd 17 32;have e37:=RY.E hd 22 37;have e41:=RY.E hd 26 41;refine RY.on hd 16 31 (.inr ⟨34,#[.string kd,.agg #[.string y.key,.slice ay y.ws.length cy],.agg #[.string x.key,.slice ax x.ws.length cx]],by simp[go_sem,e32,e37,e41],(nK.out X hX).mono ?_⟩);rintro e W' ⟨rfl,hb⟩;exact⟨_,rfl,hb,rfl⟩
    |28,rfl=>
     exact RY.on hd 16 31 (RY.p (.bool (!b)) (by simp[execOp,go_sem,RY.E hd 27 42]))
    |29,rfl=>
     exact RY.on hd 13 28 (RY.p (.bool (!b)) (by simp[execOp,go_sem,RY.E hd 16 31,RY.E hd 28 43]))
    |30,rfl=>
     exact RY.n (RY.p (.bool (!b)) (by simp[execOp,go_sem,RY.E hd 13 28,RY.E hd 29 44]))
    |n+31,ho=>simp at ho
   intro X vs hX bg;have q45:vs 45=_:=bg 30 _ 45 rfl rfl;simp only[RY.aC,Act.put,List.setIfInBounds_toArray,List.set_cons_zero,List.set_cons_succ];rw[q45];generalize vs 15=s15,vs 16=s16,vs 17=s17,vs 18=s18,vs 19=s19,vs 20=s20,vs 21=s21,vs 22=s22,vs 23=s23,vs 24=s24,vs 25=s25,vs 26=s26,vs 27=s27,vs 28=s28,vs 29=s29,vs 30=s30,vs 31=sr,vs 32=qw,vs 33=qM,vs 34=qX,vs 35=lN,vs 36=lI,vs 37=lR,vs 38=nu,vs 39=nS,vs 40=s40,vs 41=s41,vs 42=s42,vs 43=s43,vs 44=s44;clear bg q45;cases b
   ·have wE:Hid (Pl.bU kd L=false):=tN.out (by rw[kf.out];rfl);clear LY M6;go_wp2;go_ret;exact⟨Pl.aq wE.out.symm,ah HW.out hX⟩
   have tK:Hid (Pl.dj kd L k=Pl.gy (Pl.fp kd x.key) (Pl.aI (L.take (k+1)) x.key)):=by show _=_;rw[kf.out];simp
   clear Q1 jN LY oJ qj M6 dJ ga FN Jg nK kf;obtain⟨wy,rfl⟩:∃ wy,wy=X:=⟨_,rfl⟩
   replace su:=uh (j7 su.out HP.out hX)
   replace HW:=uh (ah HW.out hX)
   replace fg:=uh (aB fg.out HP.out hX)
   replace HP:=uh (zL HP.out hX.size)
   clear hX BP JH;have r6:Hid (∀ X,Calls Tryz.prog 54 #[.string kd,.string x.key] X fun e w'=>e=.returned (.int .i64 (j:Int))∧Bel X w'):=fun X=>by
    have:=jz kd x.key X;rw[Jv.out.1]at this;exact this
   have Fh:=uh (fun X=>dZ kd X);obtain⟨mn,qj⟩:∃ mn,mn=Pl.fp kd x.key:=⟨_,rfl⟩
   have EG:((Pl.ai kd).getD j Pl.bq).many=mn:=by rw[qj,Pl.fp,Jv.out.1]
   rw[← qj]at tK;obtain⟨m,hm⟩:∃ m,m=(Pl.ai kd).length:=⟨_,rfl⟩
   have HJ:Hid (j<(Pl.ai kd).length∧((Pl.ai kd).getD j Pl.bq).many=mn):=⟨Jv.out.2,EG⟩
   have Fs:(0:Int)≤(j:Int):=by omega
   have OF:(j:Int)<(m:Int):=by have:=Jv.out.2;omega
   have EF:Hid (∀ X,Calls Tryz.prog 27 #[.string kd] X (qC [.row 96 aF] (cQ (Pl.ai kd)) X)):=Fh.out;have HM:=uh hm;clear hm qj EG Fh;go_upto_region 6 with fail
   refine RY.aH wy zR (VLm kd x p o n vc k j m mn) (vS _ _ _ _ _ _ _ _ _ _) (by kernel_rfl) (by kernel_rfl) (by kernel_rfl) (by kernel_rfl) ?_ ?_
   ·intro i o' ho a X hX hk hd;have yx0:X.cell? ⟨p,o+k*2,none⟩=some (.string x.key):=(hX.cell (p:=⟨p,o+k*2,none⟩) HP.out).trans (aE fg.out 0 _ rfl);match i,ho with
    |0,rfl|2,rfl=>
     exact RY.n (RY.p (.string kd) (by simp[execOp,go_sem,RY.K hk 0 (.string kd)]))
    |1,rfl=>
     have e46:=RY.E hd 0 46;refine Or.inl ⟨RY.au rfl,Or.inr ⟨27,#[.string kd],by simp[go_sem,e46],(EF.out X).mono ?_⟩⟩;rintro e W' ⟨v,F,rfl,hr,_,_,hb⟩;obtain⟨q,oo,cc,a1,c1,v3,hv,hp,hg,_,_⟩:=jV hr.raw HJ.out.1;have Pf:=aE hg 2 _ rfl;rw[HJ.out.2]at Pf;exact⟨_,rfl,hb,q,oo,cc,by rw[HM.out];exact hv,hp,Pf⟩
    |3,rfl=>
     exact RY.n (RY.p (.slice (some ⟨p,o,none⟩) n vc) (by simp[execOp,go_sem,RY.K hk 1 (.slice (some ⟨p,o,none⟩) n vc)]))
    |4,rfl=>
     exact RY.n (RY.p (.int .i64 (k:Int)) (by simp[execOp,go_sem,RY.K hk 5 (.int .i64 (k:Int))]))
    |5,rfl=>
     exact RY.n (RY.p (.pointer (some ⟨p,o+k*2,none⟩)) (by simp[execOp,go_sem,RY.E hd 3 49,RY.E hd 4 50,ec,dP]))
    |6,rfl=>
     exact RY.n (RY.p (.pointer (some ⟨p,o+k*2,none⟩)) (by simp[execOp,go_sem,RY.E hd 5 51]))
    |7,rfl=>
     exact RY.n (RY.p (.string x.key) (by simp[execOp,go_sem,RY.E hd 6 52,yx0]))
    |8,rfl=>
     have e48:=RY.E hd 2 48;have e53:=RY.E hd 7 53;refine Or.inl ⟨RY.au rfl,Or.inr ⟨54,#[.string kd,.string x.key],by simp[go_sem,e48,e53],(r6.out X).mono ?_⟩⟩;rintro e W' ⟨rfl,hb⟩;exact⟨_,rfl,hb,rfl⟩
    |9,rfl=>
     obtain⟨q,oo,cc,e470,hq,hc⟩:=hd 1 _ 47 rfl rfl ⟨⟨1,.data⟩,by simp,rfl,rfl⟩;have e47:=(RY.af a 47).trans e470;exact Or.inl ⟨RY.au rfl,Or.inl ⟨.pointer (some ⟨q,oo+j*4,none⟩),X,by simp[execOp,go_sem,e47,RY.E hd 8 54,Fs,OF],zR,q,oo,rfl,hq,hc⟩⟩
    |10,rfl=>
     obtain⟨q,oo,e550,hq,hc⟩:=hd 9 _ 55 rfl rfl ⟨⟨9,.data⟩,by simp,rfl,rfl⟩;have e55:=(RY.af a 55).trans e550;exact Or.inl ⟨RY.au rfl,Or.inl ⟨.pointer (some ⟨q,oo+j*4+2,none⟩),X,by simp[execOp,go_sem,e55],zR,q,oo,rfl,hq,hc⟩⟩
    |11,rfl=>
     obtain⟨q,oo,e560,hq,yc⟩:=hd 10 _ 56 rfl rfl ⟨⟨10,.data⟩,by simp,rfl,rfl⟩;have e56:=(RY.af a 56).trans e560;exact RY.n (RY.p (.bool mn) (by simp[execOp,go_sem,e56,yc]))
    |12,rfl=>
     exact RY.n (RY.p (.bool mn) (by simp[execOp,go_sem,RY.E hd 11 57]))
    |n+13,ho=>simp at ho
   intro X vs hX bg;have q6:vs 6=_:=bg 12 _ 6 rfl rfl;simp only[RY.aC,Act.put,List.setIfInBounds_toArray,List.set_cons_zero,List.set_cons_succ];rw[q6];generalize vs 46=s46,vs 47=s47,vs 48=s48,vs 49=s49,vs 50=yp,vs 51=s51,vs 52=s52,vs 53=s53,vs 54=s54,vs 55=s55,vs 56=s56,vs 57=s57;clear bg q6;obtain⟨wz,rfl⟩:∃ wz,wz=X:=⟨_,rfl⟩
   replace su:=uh (j7 su.out HP.out hX)
   replace HW:=uh (ah HW.out hX)
   replace fg:=uh (aB fg.out HP.out hX)
   replace HP:=uh (zL HP.out hX.size)
   clear hX r6 EF HJ HM Fs OF;go_wp2;go_loopw [7,8] (fun vn vi wr=>∃ q:Nat,q≤k+1∧vi=.int .i64 q∧vn=.int .i64 ((Pl.aI (L.take q) x.key:Nat):Int)∧Bel wz wr) (fun _ vi _=>k+1 - (intOf vi).toNat)
   case atStart=>exact⟨0,zN,rfl,rfl,zR⟩
   case round=>
    obtain⟨q,hq,rfl,rfl,hB⟩:=hrel;have HB:=uh hB;clear hB;have E6:Hid (∀ q,Pl.aI (L.take q) x.key≤q):=fun q=>Nat.le_trans List.countP_le_length (by rw[List.length_take];omega);by_cases hqk:q≤k
    ·have Pe:q<L.length:=by have:=HN.out;omega
     obtain⟨az,cz,Hm,_⟩:=su.out q Pe;have y1:=(HB.out.cell (p:=⟨p,o+q*2,none⟩) HP.out).trans (aE Hm 0 _ rfl);have y0:=(HB.out.cell (p:=⟨p,o+k*2,none⟩) HP.out).trans (aE fg.out 0 _ rfl);have qg:=uh (uz Pe x.key);obtain⟨z,hz⟩:∃ z,z=(L.getD q Pl.aK).key:=⟨_,rfl⟩
     have y1':wr.cell? ⟨p,o+q*2,none⟩=some (.string z):=by rw[hz];exact y1
     rw[← hz]at qg;have Ro:p<wr.heap.size:=zL HP.out HB.out.size;have Oq:(0:Int)≤(q:Int):=by omega
     have JI:(q:Int)<(n:Int):=by omega
     have Sd:(q:Int)≤(k:Int):=by omega
     have yG:=E6.out q;obtain⟨ct,p8⟩:∃ ct,ct=Pl.aI (L.take q) x.key:=⟨_,rfl⟩
     rw[← p8]at yG qg ⊢;clear Hm hz y1 E6 p8;cases hh:(z.toList==x.key.toList)
     ·have HE:Hid (Pl.aI (L.take (q+1)) x.key=ct):=by show _=_;rw[qg.out,Pl.dD,hh];rfl
      go_wp2_with fail
      go_quiet (fail)
      go_wp2;go_roundw
      case rel=>exact⟨q+1,by omega,by go_num,by first|rw[HE.out]|(rw[HE.out];go_num),eL HB.out _⟩
      case measure=>simp[intOf];omega
     ·have HE:Hid (Pl.aI (L.take (q+1)) x.key=ct+1):=by show _=_;rw[qg.out,Pl.dD,hh];rfl
      go_wp2_with fail
      go_quiet (fail)
      go_wp2;go_roundw
      case rel=>exact⟨q+1,by omega,by go_num,by first|(rw[HE.out];go_num)|rw[HE.out],eL HB.out _⟩
      case measure=>simp[intOf];omega
    ·obtain rfl:q=k+1:=by omega
     have yG:=E6.out (k+1);obtain⟨ct,p8⟩:∃ ct,ct=Pl.aI (L.take (k+1)) x.key:=⟨_,rfl⟩
     rw[← p8]at yG tK ⊢;clear p8 E6;have RA:¬ ((k+1:Nat):Int)≤(k:Int):=by omega
     cases hco:Pl.gy mn ct
     ·have wE:Hid (Pl.bU kd L=false):=tN.out (by rw[tK.out,hco]);unfold Pl.gy at hco;have iE:(mn=false∧(1:Int)<(ct:Int))∨((mn=true∨¬ (1:Int)<(ct:Int))∧(10:Int)<(ct:Int)):=by
       cases mn<;>simp at hco ⊢<;>omega
      clear hco;rcases iE with⟨rfl,c1⟩|⟨c1|c1,c2⟩
      ·go_wp2;go_ret;exact⟨Pl.aq wE.out.symm,ah HW.out HB.out⟩
      ·subst c1;go_wp2;go_ret;exact⟨Pl.aq wE.out.symm,ah HW.out HB.out⟩
      ·exfalso;omega
     ·have tF:=uh (Pl.eJ HI.out (tK.out.trans hco));unfold Pl.gy at hco;have iE:(mn=true∨¬ (1:Int)<(ct:Int))∧¬ (10:Int)<(ct:Int):=by
       cases mn<;>simp at hco ⊢<;>omega
      obtain⟨c1,c2⟩:=iE;clear hco;rcases c1 with c1|c1
      ·subst c1;go_wp2;go_roundw
       case rel=>exact⟨k+1,by omega,by go_num,ah HW.out HB.out,tF.out⟩
       case measure=>simp[intOf];omega
      ·cases mn
       all_goals
        go_wp2;go_roundw
        case rel=>exact⟨k+1,by omega,by go_num,ah HW.out HB.out,tF.out⟩
        case measure=>simp[intOf];omega
  have jN:¬ 0<k:=by omega
  have tK:Hid (Pl.dj kd L k=Pl.gy (Pl.fp kd x.key) (Pl.aI (L.take (k+1)) x.key)):=by show _=_;rw[kf.out];simp[ga]
  obtain⟨y,ay,cy,b⟩:Pl.Ln×Option Addr×Nat×Bool:=⟨Pl.aK,none,0,false⟩
  clear kf ga;go_upto_region 4 with fail
  refine RY.aH wr zR (VLz kd x ax cx p o n vc k) (CT _ _ _ _ _ _ _ _ _) (by kernel_rfl) (by kernel_rfl) (by kernel_rfl) (by kernel_rfl) ?_ ?_
  ·intro i o' ho a X hX hk hd;have yx0:X.cell? ⟨p,o+k*2,none⟩=some (.string x.key):=(hX.cell (p:=⟨p,o+k*2,none⟩) HP.out).trans (aE fg.out 0 _ rfl);have yx1:X.cell? ⟨p,o+k*2+1,none⟩=some (.slice ax x.ws.length cx):=(hX.cell (p:=⟨p,o+k*2+1,none⟩) HP.out).trans (aE fg.out 1 _ rfl);have rx:=aB fg.out HP.out hX;match i,ho with
   |0,rfl=>
    exact RY.n (RY.p (.string kd) (by simp[execOp,go_sem,RY.K hk 0 (.string kd)]))
   |1,rfl|6,rfl=>
    exact RY.n (RY.p (.slice (some ⟨p,o,none⟩) n vc) (by simp[execOp,go_sem,RY.K hk 1 (.slice (some ⟨p,o,none⟩) n vc)]))
   |2,rfl|7,rfl=>
    exact RY.n (RY.p (.int .i64 (k:Int)) (by simp[execOp,go_sem,RY.K hk 5 (.int .i64 (k:Int))]))
   |3,rfl=>
    exact RY.n (RY.p (.pointer (some ⟨p,o+k*2,none⟩)) (by simp[execOp,go_sem,RY.E hd 1 16,RY.E hd 2 17,ec,dP]))
   |4,rfl=>
    exact RY.n (RY.p (.pointer (some ⟨p,o+k*2,none⟩)) (by simp[execOp,go_sem,RY.E hd 3 18]))
   |5,rfl=>
    exact RY.n (RY.p (.string x.key) (by simp[execOp,go_sem,RY.E hd 4 19,yx0]))
   |8,rfl=>
    exact RY.n (RY.p (.pointer (some ⟨p,o+k*2,none⟩)) (by simp[execOp,go_sem,RY.E hd 6 21,RY.E hd 7 22,ec,dP]))
   |9,rfl=>
    exact RY.n (RY.p (.pointer (some ⟨p,o+k*2+1,none⟩)) (by simp[execOp,go_sem,RY.E hd 8 23]))
   |10,rfl=>
    exact RY.n (RY.p (.slice ax x.ws.length cx) (by simp[execOp,go_sem,RY.E hd 9 24,yx1]))
   |11,rfl=>
    have e15:=RY.E hd 0 15;have e20:=RY.E hd 5 20;have e25:=RY.E hd 10 25;refine Or.inl ⟨RY.au rfl,Or.inr ⟨53,#[.string kd,.string x.key,.slice ax x.ws.length cx],by simp[go_sem,e15,e20,e25],(BP.out X hX).mono ?_⟩⟩;rintro e W' ⟨rfl,hb⟩;exact⟨_,rfl,hb,rfl⟩
   |12,rfl=>
    exact RY.n (RY.p (.bool false) (by simp[execOp,go_sem,RY.E hd 11 26]))
   |13,rfl=>
    exact RY.n (RY.p (.bool false) (by simp[execOp,go_sem,RY.E hd 12 27]))
   |14,rfl=>
    exact RY.on hd 13 28 (RY.p (.int .i64 (k:Int)) (by simp[execOp,go_sem,RY.K hk 5 (.int .i64 (k:Int))]))
   |15,rfl=>
    exact RY.on hd 13 28 (RY.p (.bool false) (by simp[execOp,go_sem,RY.E hd 14 29,jN]))
   |16,rfl=>
    exact RY.on hd 13 28 (RY.p (.bool false) (by simp[execOp,go_sem,RY.E hd 15 30]))
   |17,rfl|18,rfl|19,rfl|20,rfl|21,rfl|22,rfl|23,rfl|24,rfl|25,rfl|26,rfl|27,rfl|28,rfl=>
    exact RY.off hd 16 31
   |29,rfl=>
    exact RY.on hd 13 28 (RY.p (.bool false) (by simp[execOp,go_sem,RY.E hd 16 31,RY.E hd 28 43]))
   |30,rfl=>
    exact RY.n (RY.p (.bool false) (by simp[execOp,go_sem,RY.E hd 13 28,RY.E hd 29 44]))
   |n+31,ho=>simp at ho
  intro X vs hX bg;have q45:vs 45=_:=bg 30 _ 45 rfl rfl;simp only[RY.aC,Act.put,List.setIfInBounds_toArray,List.set_cons_zero,List.set_cons_succ];rw[q45];generalize vs 15=s15,vs 16=s16,vs 17=s17,vs 18=s18,vs 19=s19,vs 20=s20,vs 21=s21,vs 22=s22,vs 23=s23,vs 24=s24,vs 25=s25,vs 26=s26,vs 27=s27,vs 28=s28,vs 29=s29,vs 30=s30,vs 31=sr,vs 32=qw,vs 33=qM,vs 34=qX,vs 35=lN,vs 36=lI,vs 37=lR,vs 38=nu,vs 39=nS,vs 40=s40,vs 41=s41,vs 42=s42,vs 43=s43,vs 44=s44;clear bg q45;clear jN;obtain⟨wy,rfl⟩:∃ wy,wy=X:=⟨_,rfl⟩
  replace su:=uh (j7 su.out HP.out hX)
  replace HW:=uh (ah HW.out hX)
  replace fg:=uh (aB fg.out HP.out hX)
  replace HP:=uh (zL HP.out hX.size)
  clear hX BP JH;have r6:Hid (∀ X,Calls Tryz.prog 54 #[.string kd,.string x.key] X fun e w'=>e=.returned (.int .i64 (j:Int))∧Bel X w'):=fun X=>by
   have:=jz kd x.key X;rw[Jv.out.1]at this;exact this
  have Fh:=uh (fun X=>dZ kd X);obtain⟨mn,qj⟩:∃ mn,mn=Pl.fp kd x.key:=⟨_,rfl⟩
  have EG:((Pl.ai kd).getD j Pl.bq).many=mn:=by rw[qj,Pl.fp,Jv.out.1]
  rw[← qj]at tK;obtain⟨m,hm⟩:∃ m,m=(Pl.ai kd).length:=⟨_,rfl⟩
  have HJ:Hid (j<(Pl.ai kd).length∧((Pl.ai kd).getD j Pl.bq).many=mn):=⟨Jv.out.2,EG⟩
  have Fs:(0:Int)≤(j:Int):=by omega
  have OF:(j:Int)<(m:Int):=by have:=Jv.out.2;omega
  have EF:Hid (∀ X,Calls Tryz.prog 27 #[.string kd] X (qC [.row 96 aF] (cQ (Pl.ai kd)) X)):=Fh.out;have HM:=uh hm;clear hm qj EG Fh;go_upto_region 6 with fail
  refine RY.aH wy zR (VLm kd x p o n vc k j m mn) (vS _ _ _ _ _ _ _ _ _ _) (by kernel_rfl) (by kernel_rfl) (by kernel_rfl) (by kernel_rfl) ?_ ?_
  ·intro i o' ho a X hX hk hd;have yx0:X.cell? ⟨p,o+k*2,none⟩=some (.string x.key):=(hX.cell (p:=⟨p,o+k*2,none⟩) HP.out).trans (aE fg.out 0 _ rfl);match i,ho with
   |0,rfl|2,rfl=>
    exact RY.n (RY.p (.string kd) (by simp[execOp,go_sem,RY.K hk 0 (.string kd)]))
   |1,rfl=>
    have e46:=RY.E hd 0 46;refine Or.inl ⟨RY.au rfl,Or.inr ⟨27,#[.string kd],by simp[go_sem,e46],(EF.out X).mono ?_⟩⟩;rintro e W' ⟨v,F,rfl,hr,_,_,hb⟩;obtain⟨q,oo,cc,a1,c1,v3,hv,hp,hg,_,_⟩:=jV hr.raw HJ.out.1;have Pf:=aE hg 2 _ rfl;rw[HJ.out.2]at Pf;exact⟨_,rfl,hb,q,oo,cc,by rw[HM.out];exact hv,hp,Pf⟩
   |3,rfl=>
    exact RY.n (RY.p (.slice (some ⟨p,o,none⟩) n vc) (by simp[execOp,go_sem,RY.K hk 1 (.slice (some ⟨p,o,none⟩) n vc)]))
   |4,rfl=>
    exact RY.n (RY.p (.int .i64 (k:Int)) (by simp[execOp,go_sem,RY.K hk 5 (.int .i64 (k:Int))]))
   |5,rfl=>
    exact RY.n (RY.p (.pointer (some ⟨p,o+k*2,none⟩)) (by simp[execOp,go_sem,RY.E hd 3 49,RY.E hd 4 50,ec,dP]))
   |6,rfl=>
    exact RY.n (RY.p (.pointer (some ⟨p,o+k*2,none⟩)) (by simp[execOp,go_sem,RY.E hd 5 51]))
   |7,rfl=>
    exact RY.n (RY.p (.string x.key) (by simp[execOp,go_sem,RY.E hd 6 52,yx0]))
   |8,rfl=>
    have e48:=RY.E hd 2 48;have e53:=RY.E hd 7 53;refine Or.inl ⟨RY.au rfl,Or.inr ⟨54,#[.string kd,.string x.key],by simp[go_sem,e48,e53],(r6.out X).mono ?_⟩⟩;rintro e W' ⟨rfl,hb⟩;exact⟨_,rfl,hb,rfl⟩
   |9,rfl=>
    obtain⟨q,oo,cc,e470,hq,hc⟩:=hd 1 _ 47 rfl rfl ⟨⟨1,.data⟩,by simp,rfl,rfl⟩;have e47:=(RY.af a 47).trans e470;exact Or.inl ⟨RY.au rfl,Or.inl ⟨.pointer (some ⟨q,oo+j*4,none⟩),X,by simp[execOp,go_sem,e47,RY.E hd 8 54,Fs,OF],zR,q,oo,rfl,hq,hc⟩⟩
   |10,rfl=>
    obtain⟨q,oo,e550,hq,hc⟩:=hd 9 _ 55 rfl rfl ⟨⟨9,.data⟩,by simp,rfl,rfl⟩;have e55:=(RY.af a 55).trans e550;exact Or.inl ⟨RY.au rfl,Or.inl ⟨.pointer (some ⟨q,oo+j*4+2,none⟩),X,by simp[execOp,go_sem,e55],zR,q,oo,rfl,hq,hc⟩⟩
   |11,rfl=>
    obtain⟨q,oo,e560,hq,yc⟩:=hd 10 _ 56 rfl rfl ⟨⟨10,.data⟩,by simp,rfl,rfl⟩;have e56:=(RY.af a 56).trans e560;exact RY.n (RY.p (.bool mn) (by simp[execOp,go_sem,e56,yc]))
   |12,rfl=>
    exact RY.n (RY.p (.bool mn) (by simp[execOp,go_sem,RY.E hd 11 57]))
   |n+13,ho=>simp at ho
  intro X vs hX bg;have q6:vs 6=_:=bg 12 _ 6 rfl rfl;simp only[RY.aC,Act.put,List.setIfInBounds_toArray,List.set_cons_zero,List.set_cons_succ];rw[q6];generalize vs 46=s46,vs 47=s47,vs 48=s48,vs 49=s49,vs 50=yp,vs 51=s51,vs 52=s52,vs 53=s53,vs 54=s54,vs 55=s55,vs 56=s56,vs 57=s57;clear bg q6;obtain⟨wz,rfl⟩:∃ wz,wz=X:=⟨_,rfl⟩
  replace su:=uh (j7 su.out HP.out hX)
  replace HW:=uh (ah HW.out hX)
  replace fg:=uh (aB fg.out HP.out hX)
  replace HP:=uh (zL HP.out hX.size)
  clear hX r6 EF HJ HM Fs OF;go_wp2;go_loopw [7,8] (fun vn vi wr=>∃ q:Nat,q≤k+1∧vi=.int .i64 q∧vn=.int .i64 ((Pl.aI (L.take q) x.key:Nat):Int)∧Bel wz wr) (fun _ vi _=>k+1 - (intOf vi).toNat)
  case atStart=>exact⟨0,zN,rfl,rfl,zR⟩
  case round=>
   obtain⟨q,hq,rfl,rfl,hB⟩:=hrel;have HB:=uh hB;clear hB;have E6:Hid (∀ q,Pl.aI (L.take q) x.key≤q):=fun q=>Nat.le_trans List.countP_le_length (by rw[List.length_take];omega);by_cases hqk:q≤k
   ·have Pe:q<L.length:=by have:=HN.out;omega
    obtain⟨az,cz,Hm,_⟩:=su.out q Pe;have y1:=(HB.out.cell (p:=⟨p,o+q*2,none⟩) HP.out).trans (aE Hm 0 _ rfl);have y0:=(HB.out.cell (p:=⟨p,o+k*2,none⟩) HP.out).trans (aE fg.out 0 _ rfl);have qg:=uh (uz Pe x.key);obtain⟨z,hz⟩:∃ z,z=(L.getD q Pl.aK).key:=⟨_,rfl⟩
    have y1':wr.cell? ⟨p,o+q*2,none⟩=some (.string z):=by rw[hz];exact y1
    rw[← hz]at qg;have Ro:p<wr.heap.size:=zL HP.out HB.out.size;have Oq:(0:Int)≤(q:Int):=by omega
    have JI:(q:Int)<(n:Int):=by omega
    have Sd:(q:Int)≤(k:Int):=by omega
    have yG:=E6.out q;obtain⟨ct,p8⟩:∃ ct,ct=Pl.aI (L.take q) x.key:=⟨_,rfl⟩
    rw[← p8]at yG qg ⊢;clear Hm hz y1 E6 p8;cases hh:(z.toList==x.key.toList)
    ·have HE:Hid (Pl.aI (L.take (q+1)) x.key=ct):=by show _=_;rw[qg.out,Pl.dD,hh];rfl
     go_wp2_with fail
     go_quiet (fail)
     go_wp2;go_roundw
     case rel=>exact⟨q+1,by omega,by go_num,by first|rw[HE.out]|(rw[HE.out];go_num),eL HB.out _⟩
     case measure=>simp[intOf];omega
    ·have HE:Hid (Pl.aI (L.take (q+1)) x.key=ct+1):=by show _=_;rw[qg.out,Pl.dD,hh];rfl
     go_wp2_with fail
     go_quiet (fail)
     go_wp2;go_roundw
     case rel=>exact⟨q+1,by omega,by go_num,by first|(rw[HE.out];go_num)|rw[HE.out],eL HB.out _⟩
     case measure=>simp[intOf];omega
   ·obtain rfl:q=k+1:=by omega
    have yG:=E6.out (k+1);obtain⟨ct,p8⟩:∃ ct,ct=Pl.aI (L.take (k+1)) x.key:=⟨_,rfl⟩
    rw[← p8]at yG tK ⊢;clear p8 E6;have RA:¬ ((k+1:Nat):Int)≤(k:Int):=by omega
    cases hco:Pl.gy mn ct
    ·have wE:Hid (Pl.bU kd L=false):=tN.out (by rw[tK.out,hco]);unfold Pl.gy at hco;have iE:(mn=false∧(1:Int)<(ct:Int))∨((mn=true∨¬ (1:Int)<(ct:Int))∧(10:Int)<(ct:Int)):=by
      cases mn<;>simp at hco ⊢<;>omega
     clear hco;rcases iE with⟨rfl,c1⟩|⟨c1|c1,c2⟩
     ·go_wp2;go_ret;exact⟨Pl.aq wE.out.symm,ah HW.out HB.out⟩
     ·subst c1;go_wp2;go_ret;exact⟨Pl.aq wE.out.symm,ah HW.out HB.out⟩
     ·exfalso;omega
    ·have tF:=uh (Pl.eJ HI.out (tK.out.trans hco));unfold Pl.gy at hco;have iE:(mn=true∨¬ (1:Int)<(ct:Int))∧¬ (10:Int)<(ct:Int):=by
      cases mn<;>simp at hco ⊢<;>omega
     obtain⟨c1,c2⟩:=iE;clear hco;rcases c1 with c1|c1
     ·subst c1;go_wp2;go_roundw
      case rel=>exact⟨k+1,by omega,by go_num,ah HW.out HB.out,tF.out⟩
      case measure=>simp[intOf];omega
     ·cases mn
      all_goals
       go_wp2;go_roundw
       case rel=>exact⟨k+1,by omega,by go_num,ah HW.out HB.out,tF.out⟩
       case measure=>simp[intOf];omega
theorem l4 (x y:Pl.Bl) (v1 v2:Value) (w:World):
  Calls Tryz.prog 30 #[.agg #[.string x.kind,.string x.name,v1],.agg #[.string y.kind,.string y.name,v2]] w fun e w'=>e=.returned (.bool (Pl.ahead x y))∧Bel w w':=by
 obtain⟨wa,aZ⟩:∃ wa,wa=(w.alloc (.cells #[.string x.kind,.string x.name,v1] 41)).alloc (.cells #[.string y.kind,.string y.name,v2] 41):=⟨_,rfl⟩
 have cL:Hid (Bel w wa):=by show Below _ _ _;rw[aZ];exact ae (ae zR _) _
 have HX:aS wa w.heap.size [.string x.kind,.string x.name,v1]:=by rw[aZ];exact(aS.new w #[.string x.kind,.string x.name,v1] _ _ rfl).lf _
 have HY:aS wa (w.heap.size+1) [.string y.kind,.string y.name,v2]:=by rw[aZ];exact aS.new (w.alloc (.cells #[.string x.kind,.string x.name,v1] 41)) #[.string y.kind,.string y.name,v2] _ _ (by simp)
 have HR:Hid (Pl.ahead x y=(Op.bytesLess x.kind.toList y.kind.toList||((x.kind.toList==y.kind.toList)&&Op.bytesLess x.name.toList y.name.toList))):=rfl;go_enter Tryz.func30,Tryz.ntmps30
 go_upto_region 1 with fail
 rw[← aZ];clear aZ;have x0:=HX.get 0 _ rfl;have x1:=HX.get 1 _ rfl;have xl:=HX.lt;have y0:=HY.get 0 _ rfl;have y1:=HY.get 1 _ rfl;have yl:=HY.lt;clear HX HY;cases h1:Op.bytesLess x.kind.toList y.kind.toList
 ·cases h2:(x.kind.toList==y.kind.toList)
  ·go_wp2;go_ret;exact⟨Pl.aq (by rw[HR.out,h1,h2];rfl),cL.out⟩
  ·go_wp2;go_ret;exact⟨Pl.aq (by rw[HR.out,h1,h2];simp),cL.out⟩
 ·go_wp2;go_ret;exact⟨Pl.aq (by rw[HR.out,h1];rfl),cL.out⟩
def VSa (x:Pl.Bl) (m:Nat) (b1:Nat) (jj:Nat) (u:Value) (_:World):Prop:=match jj with
 |0=>u=.pointer (some ⟨b1,0,none⟩)
 |1=>u=.string x.kind
 |2=>∃ a c,u=.slice a m c
 |3=>u=.int .i64 (m:Int)
 |4|5|10|11|18|19|33=>u=.bool true
 |6|7|8|9|12|13|14|15|16|17|20|21|22|23|24|25|26|27|28|29|30|31|32=>u=undef
 |_=>True
theorem Es (x:Pl.Bl) (m:Nat) (b1:Nat):∀ jj u W W',Bel W W'→VSa x m b1 jj u W→VSa x m b1 jj u W':=fun _ _ _ _ _ h=>h
def VSb (x:Pl.Bl) (m:Nat) (b1:Nat) (jj:Nat) (u:Value) (_:World):Prop:=match jj with
 |0=>u=.pointer (some ⟨b1,0,none⟩)
 |1=>u=.string x.kind
 |2=>∃ a c,u=.slice a m c
 |3=>u=.int .i64 (m:Int)
 |4|5|8=>u=.bool false
 |6=>u=.pointer (some ⟨b1,1,none⟩)
 |7=>u=.string x.name
 |9|10|11|18|19|33=>u=.bool true
 |12|13|14|15|16|17|20|21|22|23|24|25|26|27|28|29|30|31|32=>u=undef
 |_=>True
theorem Ch (x:Pl.Bl) (m:Nat) (b1:Nat):∀ jj u W W',Bel W W'→VSb x m b1 jj u W→VSb x m b1 jj u W':=fun _ _ _ _ _ h=>h
def VSc (x:Pl.Bl) (ax:Option Addr) (cx:Nat) (m:Nat) (b1:Nat) (jj:Nat) (u:Value) (_:World):Prop:=match jj with
 |0|12=>u=.pointer (some ⟨b1,0,none⟩)
 |1|13=>u=.string x.kind
 |2=>∃ a c,u=.slice a m c
 |3=>u=.int .i64 (m:Int)
 |4|5|9|10|11|16=>u=.bool false
 |6=>u=.pointer (some ⟨b1,1,none⟩)
 |7=>u=.string x.name
 |8|17|18|19|33=>u=.bool true
 |14=>u=.pointer (some ⟨b1,2,none⟩)
 |15=>u=.slice ax x.lines.length cx
 |20|21|22|23|24|25|26|27|28|29|30|31|32=>u=undef
 |_=>True
theorem Cz (x:Pl.Bl) (ax:Option Addr) (cx:Nat) (m:Nat) (b1:Nat):∀ jj u W W',Bel W W'→VSc x ax cx m b1 jj u W→VSc x ax cx m b1 jj u W':=fun _ _ _ _ _ h=>h
def VSd (x:Pl.Bl) (ax:Option Addr) (cx:Nat) (k:Nat) (m:Nat) (b1:Nat) (jj:Nat) (u:Value) (_:World):Prop:=match jj with
 |0|12=>u=.pointer (some ⟨b1,0,none⟩)
 |1|13=>u=.string x.kind
 |2=>∃ a c,u=.slice a m c
 |3=>u=.int .i64 (m:Int)
 |4|5|9|10|11|17|18|19|21|22|32|33=>u=.bool false
 |6=>u=.pointer (some ⟨b1,1,none⟩)
 |7=>u=.string x.name
 |8|16=>u=.bool true
 |14=>u=.pointer (some ⟨b1,2,none⟩)
 |15=>u=.slice ax x.lines.length cx
 |20=>u=.int .i64 (k:Int)
 |23|24|25|26|27|28|29|30|31=>u=undef
 |_=>True
theorem C6 (x:Pl.Bl) (ax:Option Addr) (cx:Nat) (k:Nat) (m:Nat) (b1:Nat):∀ jj u W W',Bel W W'→VSd x ax cx k m b1 jj u W→VSd x ax cx k m b1 jj u W':=fun _ _ _ _ _ h=>h
def VSe (x:Pl.Bl) (y:Pl.Bl) (ax:Option Addr) (ay:Option Addr) (cx:Nat) (cy:Nat) (p:Nat) (o:Nat) (n:Nat) (vc:Nat) (k:Nat) (m:Nat) (b0:Nat) (b1:Nat) (b:Bool) (jj:Nat) (u:Value) (_:World):Prop:=match jj with
 |0|12=>u=.pointer (some ⟨b1,0,none⟩)
 |1|13=>u=.string x.kind
 |2=>∃ a c,u=.slice a m c
 |3=>u=.int .i64 (m:Int)
 |4|5|9|10|11|17|18|19=>u=.bool false
 |6=>u=.pointer (some ⟨b1,1,none⟩)
 |7=>u=.string x.name
 |8|16|21|22=>u=.bool true
 |14=>u=.pointer (some ⟨b1,2,none⟩)
 |15=>u=.slice ax x.lines.length cx
 |20|25=>u=.int .i64 (k:Int)
 |23=>u=.pointer (some ⟨b0,0,none⟩)
 |24=>u=.slice (some ⟨p,o,none⟩) n vc
 |26=>u=.int .i64 ((k:Int) - 1)
 |27=>u=.pointer (some ⟨p,o+(k - 1)*3,none⟩)
 |28=>u=.agg #[.string y.kind,.string y.name,.slice ay y.lines.length cy]
 |29=>u=.agg #[.string x.kind,.string x.name,.slice ax x.lines.length cx]
 |30=>u=.bool b
 |31|32|33=>u=.bool (!b)
 |_=>True
theorem Eo (x:Pl.Bl) (y:Pl.Bl) (ax:Option Addr) (ay:Option Addr) (cx:Nat) (cy:Nat) (p:Nat) (o:Nat) (n:Nat) (vc:Nat) (k:Nat) (m:Nat) (b0:Nat) (b1:Nat) (b:Bool):∀ jj u W W',Bel W W'→VSe x y ax ay cx cy p o n vc k m b0 b1 b jj u W→VSe x y ax ay cx cy p o n vc k m b0 b1 b jj u W':=fun _ _ _ _ _ h=>h
def xm (s:List Pl.Bl):Prop:=∀ b∈s,b.name.size≤maxLen∧∀ x∈b.lines,∀ t∈x.ws,t.size≤maxLen
theorem ng (s:List Pl.Bl) (v:Value) (w:World) (h:Raw w bu [bD s] [v]) (hz:xm s):
  Calls Tryz.prog 8 #[.agg #[v]] w fun e w'=>e=.returned (.bool (Pl.bH s))∧Bel w w':=by
 have HL:=uh h;have HZ:=uh hz;obtain⟨va,vc,ev⟩:=h.bm;subst ev;have HR:Hid (Pl.bH s=(decide (s.length≤60)&&(List.range s.length).all (Pl.dk s))):=rfl;clear h hz;obtain⟨n,hn⟩:∃ n,n=s.length:=⟨_,rfl⟩
 have HN:=uh hn;rw[← hn]at HR;have qs:s.length=n:=hn.symm;clear hn;rw[qs];clear qs;obtain⟨wa,aZ⟩:∃ wa,wa=w.alloc (.cells #[.slice va n vc] 25):=⟨_,rfl⟩
 have jG:Hid (Bel w wa):=by show Below _ _ _;rw[aZ];exact ae zR _
 have cL:Hid (aS wa w.heap.size [.slice va n vc]):=by show aS _ _ _;rw[aZ];exact aS.new w #[.slice va n vc] _ _ rfl
 go_enter Tryz.func8,Tryz.ntmps8
 go_upto_region 1 with fail
 rw[← aZ];clear aZ;have x0:=cL.out.get 0 _ rfl;have xl:=cL.out.lt;by_cases BT:(60:Int)<(n:Int)
 ·have HX:Hid (Pl.bH s=false):=by show _=_;rw[HR.out];simp;intro h;omega
  go_wp2;go_ret;exact⟨Pl.aq HX.out.symm,jG.out⟩
 have HV:Hid (Pl.bH s=(List.range n).all (Pl.dk s)):=by show _=_;rw[HR.out];simp;omega
 go_upto_region 3 with fail
 clear x0 xl HR;obtain⟨b0,cd⟩:∃ b0,b0=w.heap.size:=⟨_,rfl⟩
 rw[← cd]at cL ⊢;have kW:=uh cd;clear cd;go_wp2;go_loopw [3] (fun i wr=>∃ k:Nat,k≤n∧i=.int .i64 k∧Bel w wr∧aS wr b0 [.slice va n vc]∧(List.range k).all (Pl.dk s)=true) (fun i _=>n - (intOf i).toNat)
 case atStart=>exact⟨0,zN,rfl,jG.out,cL.out,rfl⟩
 case round=>
  clear cL;obtain⟨k,hk,rfl,hW,mB,hI⟩:=hrel;have HW:=uh hW;have HI:=uh hI;have gE:=uh mB;have x0:=mB.get 0 _ rfl;have xl:=mB.lt;clear hW hI mB;by_cases bd:k<n
  rotate_left
  ·obtain rfl:k=n:=by omega
   go_wp2;go_ret;exact⟨Pl.aq (by rw[HV.out,HI.out]),HW.out⟩
  have iF:k<s.length:=by have:=HN.out;omega
  rcases db (HL.out.later HW.out) with⟨e0,_⟩|⟨p,o,c,hv,hp,fK,aO⟩
  ·omega
  rw[← HN.out]at hv fK;injection hv with g1 _ g3
  subst g1;subst g3;unfold maxLen at fK;obtain⟨ax,cx,jf,fe⟩:=aO k iF;have tN:=uh (fun h=>(HV.out.trans (Pl.fv bd h)));have kf:Hid (Pl.dk s k=(!decide ((Pl.ai (s.getD k Pl.aN).kind).length=0)&&Pl.aT (s.getD k Pl.aN).name&&Pl.bU (s.getD k Pl.aN).kind (s.getD k Pl.aN).lines&&(decide (k=0)||Pl.ahead (s.getD (k - 1) Pl.aN) (s.getD k Pl.aN)))):=rfl;obtain⟨x,hx⟩:∃ x,x=s.getD k Pl.aN:=⟨_,rfl⟩
  have Py:x.name.size≤maxLen∧∀ z∈x.lines,∀ t∈z.ws,t.size≤maxLen:=by
   have e:s.getD k Pl.aN=s[k]:=by simp[iF]
   rw[hx,e];exact HZ.out _ (List.getElem_mem iF)
  rw[← hx]at jf fe kf;obtain⟨wq,qL⟩:∃ wq,wq=wr.alloc (.cells #[.string x.kind,.string x.name,.slice ax x.lines.length cx] 41):=⟨_,rfl⟩
  obtain⟨b1,bJ⟩:∃ b1,b1=wr.heap.size:=⟨_,rfl⟩
  have E4:Bel wr wq:=by rw[qL];exact ae zR _
  have fU:Hid (aS wq b1 [.string x.kind,.string x.name,.slice ax x.lines.length cx]):=by show aS _ _ _;rw[qL,bJ];exact aS.new wr #[.string x.kind,.string x.name,.slice ax x.lines.length cx] _ _ rfl
  have cL:=uh (gE.out.later E4);have fN:=uh (ah HW.out E4);have HP:=uh (zL hp E4.size);have JH:=uh (fe.later E4);have su:Hid (∀ k,k<s.length→∃ a c',wq.rangeAt p (o+k*3) [.string (s.getD k Pl.aN).kind,.string (s.getD k Pl.aN).name,.slice a (s.getD k Pl.aN).lines.length c']):=fun k hk=>by
   obtain⟨a,c',h1,_⟩:=aO k hk;exact⟨a,c',aB h1 hp E4⟩
  have ec:(0:Int)≤(k:Int):=by omega
  have dP:(k:Int)<(n:Int):=by omega
  have ED:wr.rangeAt p (o+k*3) [.string x.kind,.string x.name,.slice ax x.lines.length cx]:=jf;have Qk:=uh Py;clear hx aO Py;go_upto_region 7 with(refine wpList_load_mid rfl 41 _ rfl p (o+k*3) rfl [.string x.kind,.string x.name,.slice ax x.lines.length cx] _ ED Tryz.underlying41 rfl (by kernel_rfl) ?_)
  rw[← qL,← bJ];clear qL bJ E4 jf fe ED x0 xl HW gE hp ec dP;have EF:=uh (fun X=>dZ x.kind X);have IC:=uh (fun X=>pZ x.name X Qk.out.1);have wB:=uh (fun (X:World) (hX:Bel wq X)=>uH x.kind x.lines (.slice ax x.lines.length cx) X (JH.out.later hX) Qk.out.2);obtain⟨m,hm⟩:∃ m,m=(Pl.ai x.kind).length:=⟨_,rfl⟩
  have HM:=uh hm;rw[← hm]at kf;clear hm;by_cases oJ:m=0
  ·have wE:Hid (Pl.bH s=false):=tN.out (by rw[kf.out,oJ];rfl);obtain⟨y,ay,cy,b⟩:Pl.Bl×Option Addr×Nat×Bool:=⟨Pl.aN,none,0,false⟩
   refine RY.aH wq zR (VSa x m b1) (Es _ _ _) (by kernel_rfl) (by kernel_rfl) (by kernel_rfl) (by kernel_rfl) ?_ ?_
   ·intro i o' ho a X hX hk hd;have z0:=(fU.out.later hX).get 0 _ rfl;have z1:=(fU.out.later hX).get 1 _ rfl;have z2:=(fU.out.later hX).get 2 _ rfl;have rx:=(fU.out.later hX).at_;have zb:=(cL.out.later hX).get 0 _ rfl;match i,ho with
    |0,rfl=>
     exact RY.n (RY.p (.pointer (some ⟨b1,0,none⟩)) (by simp[execOp,go_sem,RY.K hk 4 (.pointer (some ⟨b1,0,none⟩))]))
    |1,rfl=>
     exact RY.n (RY.p (.string x.kind) (by simp[execOp,go_sem,RY.E hd 0 21,z0]))
    |2,rfl=>
     have e22:=RY.E hd 1 22;refine Or.inl ⟨RY.au rfl,Or.inr ⟨27,#[.string x.kind],by simp[go_sem,e22],(EF.out X).mono ?_⟩⟩;rintro e W' ⟨v,F,rfl,hr,_,_,hb⟩;obtain⟨a1,c1,hv⟩:=hr.raw.bm;exact⟨_,rfl,hb,a1,c1,by rw[HM.out];exact hv⟩
    |3,rfl=>
     obtain⟨a1,c1,e230⟩:=hd 2 _ 23 rfl rfl ⟨⟨2,.data⟩,by simp,rfl,rfl⟩;have e23:=(RY.af a 23).trans e230;exact RY.n (RY.p (.int .i64 (m:Int)) (by simp[go_sem,e23]))
    |4,rfl=>
     exact RY.n (RY.p (.bool true) (by simp[execOp,go_sem,RY.E hd 3 24,oJ]))
    |5,rfl=>
     exact RY.n (RY.p (.bool true) (by simp[execOp,go_sem,RY.E hd 4 25]))
    |6,rfl|7,rfl|8,rfl|9,rfl=>
     exact RY.off hd 5 26
    |10,rfl=>
     exact RY.n (RY.p (.bool true) (by simp[execOp,go_sem,RY.E hd 5 26,RY.E hd 9 30]))
    |11,rfl=>
     exact RY.n (RY.p (.bool true) (by simp[execOp,go_sem,RY.E hd 10 31]))
    |12,rfl|13,rfl|14,rfl|15,rfl|16,rfl|17,rfl=>
     exact RY.off hd 11 32
    |18,rfl=>
     exact RY.n (RY.p (.bool true) (by simp[execOp,go_sem,RY.E hd 11 32,RY.E hd 17 38]))
    |19,rfl=>
     exact RY.n (RY.p (.bool true) (by simp[execOp,go_sem,RY.E hd 18 39]))
    |20,rfl|21,rfl|22,rfl|32,rfl=>
     exact RY.off hd 19 40
    |23,rfl|24,rfl|25,rfl|26,rfl|27,rfl|28,rfl|29,rfl|30,rfl|31,rfl=>
     exact RY.GU hd 22 43
    |33,rfl=>
     exact RY.n (RY.p (.bool true) (by simp[execOp,go_sem,RY.E hd 19 40,RY.E hd 32 53]))
    |n+34,ho=>simp at ho
   intro X vs hX bg;have q54:vs 54=_:=bg 33 _ 54 rfl rfl;simp only[RY.aC,Act.put,List.setIfInBounds_toArray,List.set_cons_zero,List.set_cons_succ];rw[q54];generalize vs 21=s21,vs 22=s22,vs 23=s23,vs 24=s24,vs 25=s25,vs 26=s26,vs 27=s27,vs 28=s28,vs 29=s29,vs 30=s30,vs 31=sr,vs 32=qw,vs 33=qM,vs 34=qX,vs 35=lN,vs 36=lI,vs 37=lR,vs 38=nu,vs 39=nS,vs 40=s40,vs 41=s41,vs 42=s42,vs 43=s43,vs 44=s44,vs 45=s45,vs 46=s46,vs 47=s47,vs 48=s48,vs 49=s49,vs 50=yp,vs 51=s51,vs 52=s52,vs 53=s53;clear bg q54;go_wp2;go_ret;exact⟨Pl.aq wE.out.symm,ah fN.out hX⟩
  have hdm:decide (m=0)=false:=by simpa using oJ
  rw[hdm]at kf;clear hdm;obtain⟨nm,yj⟩:∃ b,b=Pl.aT x.name:=⟨_,rfl⟩
  rw[← yj]at IC kf;clear yj;cases nm
  ·have wE:Hid (Pl.bH s=false):=tN.out (by rw[kf.out];rfl);have qi:Hid (∀ X,Calls Tryz.prog 28 #[.string x.name] X fun e w'=>e=.returned (.bool false)∧X=w'):=IC.out;obtain⟨y,ay,cy,b⟩:Pl.Bl×Option Addr×Nat×Bool:=⟨Pl.aN,none,0,false⟩
   refine RY.aH wq zR (VSb x m b1) (Ch _ _ _) (by kernel_rfl) (by kernel_rfl) (by kernel_rfl) (by kernel_rfl) ?_ ?_
   ·intro i o' ho a X hX hk hd;have z0:=(fU.out.later hX).get 0 _ rfl;have z1:=(fU.out.later hX).get 1 _ rfl;have z2:=(fU.out.later hX).get 2 _ rfl;have rx:=(fU.out.later hX).at_;have zb:=(cL.out.later hX).get 0 _ rfl;match i,ho with
    |0,rfl=>
     exact RY.n (RY.p (.pointer (some ⟨b1,0,none⟩)) (by simp[execOp,go_sem,RY.K hk 4 (.pointer (some ⟨b1,0,none⟩))]))
    |1,rfl=>
     exact RY.n (RY.p (.string x.kind) (by simp[execOp,go_sem,RY.E hd 0 21,z0]))
    |2,rfl=>
     have e22:=RY.E hd 1 22;refine Or.inl ⟨RY.au rfl,Or.inr ⟨27,#[.string x.kind],by simp[go_sem,e22],(EF.out X).mono ?_⟩⟩;rintro e W' ⟨v,F,rfl,hr,_,_,hb⟩;obtain⟨a1,c1,hv⟩:=hr.raw.bm;exact⟨_,rfl,hb,a1,c1,by rw[HM.out];exact hv⟩
    |3,rfl=>
     obtain⟨a1,c1,e230⟩:=hd 2 _ 23 rfl rfl ⟨⟨2,.data⟩,by simp,rfl,rfl⟩;have e23:=(RY.af a 23).trans e230;exact RY.n (RY.p (.int .i64 (m:Int)) (by simp[go_sem,e23]))
    |4,rfl=>
     exact RY.n (RY.p (.bool false) (by simp[execOp,go_sem,RY.E hd 3 24,oJ]))
    |5,rfl=>
     exact RY.n (RY.p (.bool false) (by simp[execOp,go_sem,RY.E hd 4 25]))
    |6,rfl=>
     exact RY.on hd 5 26 (RY.p (.pointer (some ⟨b1,1,none⟩)) (by simp[execOp,go_sem,RY.K hk 4 (.pointer (some ⟨b1,0,none⟩))]))
    |7,rfl=>
     exact RY.on hd 5 26 (RY.p (.string x.name) (by simp[execOp,go_sem,RY.E hd 6 27,z1]))
    |8,rfl=>
     have e28:=RY.E hd 7 28;refine RY.on hd 5 26 (.inr ⟨28,#[.string x.name],by simp[go_sem,e28],(qi.out X).mono ?_⟩);rintro e W' ⟨rfl,rfl⟩;exact⟨_,rfl,zR,rfl⟩
    |9,rfl=>
     exact RY.on hd 5 26 (RY.p (.bool true) (by simp[execOp,go_sem,RY.E hd 8 29]))
    |10,rfl=>
     exact RY.n (RY.p (.bool true) (by simp[execOp,go_sem,RY.E hd 5 26,RY.E hd 9 30]))
    |11,rfl=>
     exact RY.n (RY.p (.bool true) (by simp[execOp,go_sem,RY.E hd 10 31]))
    |12,rfl|13,rfl|14,rfl|15,rfl|16,rfl|17,rfl=>
     exact RY.off hd 11 32
    |18,rfl=>
     exact RY.n (RY.p (.bool true) (by simp[execOp,go_sem,RY.E hd 11 32,RY.E hd 17 38]))
    |19,rfl=>
     exact RY.n (RY.p (.bool true) (by simp[execOp,go_sem,RY.E hd 18 39]))
    |20,rfl|21,rfl|22,rfl|32,rfl=>
     exact RY.off hd 19 40
    |23,rfl|24,rfl|25,rfl|26,rfl|27,rfl|28,rfl|29,rfl|30,rfl|31,rfl=>
     exact RY.GU hd 22 43
    |33,rfl=>
     exact RY.n (RY.p (.bool true) (by simp[execOp,go_sem,RY.E hd 19 40,RY.E hd 32 53]))
    |n+34,ho=>simp at ho
   intro X vs hX bg;have q54:vs 54=_:=bg 33 _ 54 rfl rfl;simp only[RY.aC,Act.put,List.setIfInBounds_toArray,List.set_cons_zero,List.set_cons_succ];rw[q54];generalize vs 21=s21,vs 22=s22,vs 23=s23,vs 24=s24,vs 25=s25,vs 26=s26,vs 27=s27,vs 28=s28,vs 29=s29,vs 30=s30,vs 31=sr,vs 32=qw,vs 33=qM,vs 34=qX,vs 35=lN,vs 36=lI,vs 37=lR,vs 38=nu,vs 39=nS,vs 40=s40,vs 41=s41,vs 42=s42,vs 43=s43,vs 44=s44,vs 45=s45,vs 46=s46,vs 47=s47,vs 48=s48,vs 49=s49,vs 50=yp,vs 51=s51,vs 52=s52,vs 53=s53;clear bg q54;go_wp2;go_ret;exact⟨Pl.aq wE.out.symm,ah fN.out hX⟩
  have qi:Hid (∀ X,Calls Tryz.prog 28 #[.string x.name] X fun e w'=>e=.returned (.bool true)∧X=w'):=IC.out;clear IC;obtain⟨ln,zG⟩:∃ b,b=Pl.bU x.kind x.lines:=⟨_,rfl⟩
  rw[← zG]at wB kf;clear zG;cases ln
  ·have wE:Hid (Pl.bH s=false):=tN.out (by rw[kf.out];rfl);have nK:Hid (∀ X:World,Bel wq X→Calls Tryz.prog 29 #[.string x.kind,.slice ax x.lines.length cx] X fun e w'=>e=.returned (.bool false)∧Bel X w'):=wB.out;obtain⟨y,ay,cy,b⟩:Pl.Bl×Option Addr×Nat×Bool:=⟨Pl.aN,none,0,false⟩
   refine RY.aH wq zR (VSc x ax cx m b1) (Cz _ _ _ _ _) (by kernel_rfl) (by kernel_rfl) (by kernel_rfl) (by kernel_rfl) ?_ ?_
   ·intro i o' ho a X hX hk hd;have z0:=(fU.out.later hX).get 0 _ rfl;have z1:=(fU.out.later hX).get 1 _ rfl;have z2:=(fU.out.later hX).get 2 _ rfl;have rx:=(fU.out.later hX).at_;have zb:=(cL.out.later hX).get 0 _ rfl;match i,ho with
    |0,rfl=>
     exact RY.n (RY.p (.pointer (some ⟨b1,0,none⟩)) (by simp[execOp,go_sem,RY.K hk 4 (.pointer (some ⟨b1,0,none⟩))]))
    |1,rfl=>
     exact RY.n (RY.p (.string x.kind) (by simp[execOp,go_sem,RY.E hd 0 21,z0]))
    |2,rfl=>
     have e22:=RY.E hd 1 22;refine Or.inl ⟨RY.au rfl,Or.inr ⟨27,#[.string x.kind],by simp[go_sem,e22],(EF.out X).mono ?_⟩⟩;rintro e W' ⟨v,F,rfl,hr,_,_,hb⟩;obtain⟨a1,c1,hv⟩:=hr.raw.bm;exact⟨_,rfl,hb,a1,c1,by rw[HM.out];exact hv⟩
    |3,rfl=>
     obtain⟨a1,c1,e230⟩:=hd 2 _ 23 rfl rfl ⟨⟨2,.data⟩,by simp,rfl,rfl⟩;have e23:=(RY.af a 23).trans e230;exact RY.n (RY.p (.int .i64 (m:Int)) (by simp[go_sem,e23]))
    |4,rfl=>
     exact RY.n (RY.p (.bool false) (by simp[execOp,go_sem,RY.E hd 3 24,oJ]))
    |5,rfl=>
     exact RY.n (RY.p (.bool false) (by simp[execOp,go_sem,RY.E hd 4 25]))
    |6,rfl=>
     exact RY.on hd 5 26 (RY.p (.pointer (some ⟨b1,1,none⟩)) (by simp[execOp,go_sem,RY.K hk 4 (.pointer (some ⟨b1,0,none⟩))]))
    |7,rfl=>
     exact RY.on hd 5 26 (RY.p (.string x.name) (by simp[execOp,go_sem,RY.E hd 6 27,z1]))
    |8,rfl=>
     have e28:=RY.E hd 7 28;refine RY.on hd 5 26 (.inr ⟨28,#[.string x.name],by simp[go_sem,e28],(qi.out X).mono ?_⟩);rintro e W' ⟨rfl,rfl⟩;exact⟨_,rfl,zR,rfl⟩
    |9,rfl=>
     exact RY.on hd 5 26 (RY.p (.bool false) (by simp[execOp,go_sem,RY.E hd 8 29]))
    |10,rfl=>
     exact RY.n (RY.p (.bool false) (by simp[execOp,go_sem,RY.E hd 5 26,RY.E hd 9 30]))
    |11,rfl=>
     exact RY.n (RY.p (.bool false) (by simp[execOp,go_sem,RY.E hd 10 31]))
    |12,rfl=>
     exact RY.on hd 11 32 (RY.p (.pointer (some ⟨b1,0,none⟩)) (by simp[execOp,go_sem,RY.K hk 4 (.pointer (some ⟨b1,0,none⟩))]))
    |13,rfl=>
     exact RY.on hd 11 32 (RY.p (.string x.kind) (by simp[execOp,go_sem,RY.E hd 12 33,z0]))
    |14,rfl=>
     exact RY.on hd 11 32 (RY.p (.pointer (some ⟨b1,2,none⟩)) (by simp[execOp,go_sem,RY.K hk 4 (.pointer (some ⟨b1,0,none⟩))]))
    |15,rfl=>
     exact RY.on hd 11 32 (RY.p (.slice ax x.lines.length cx) (by simp[execOp,go_sem,RY.E hd 14 35,z2]))
    |16,rfl=>
     have e34:=RY.E hd 13 34;have e36:=RY.E hd 15 36;refine RY.on hd 11 32 (.inr ⟨29,#[.string x.kind,.slice ax x.lines.length cx],by simp[go_sem,e34,e36],(nK.out X hX).mono ?_⟩);rintro e W' ⟨rfl,hb⟩;exact⟨_,rfl,hb,rfl⟩
    |17,rfl=>
     exact RY.on hd 11 32 (RY.p (.bool true) (by simp[execOp,go_sem,RY.E hd 16 37]))
    |18,rfl=>
     exact RY.n (RY.p (.bool true) (by simp[execOp,go_sem,RY.E hd 11 32,RY.E hd 17 38]))
    |19,rfl=>
     exact RY.n (RY.p (.bool true) (by simp[execOp,go_sem,RY.E hd 18 39]))
    |20,rfl|21,rfl|22,rfl|32,rfl=>
     exact RY.off hd 19 40
    |23,rfl|24,rfl|25,rfl|26,rfl|27,rfl|28,rfl|29,rfl|30,rfl|31,rfl=>
     exact RY.GU hd 22 43
    |33,rfl=>
     exact RY.n (RY.p (.bool true) (by simp[execOp,go_sem,RY.E hd 19 40,RY.E hd 32 53]))
    |n+34,ho=>simp at ho
   intro X vs hX bg;have q54:vs 54=_:=bg 33 _ 54 rfl rfl;simp only[RY.aC,Act.put,List.setIfInBounds_toArray,List.set_cons_zero,List.set_cons_succ];rw[q54];generalize vs 21=s21,vs 22=s22,vs 23=s23,vs 24=s24,vs 25=s25,vs 26=s26,vs 27=s27,vs 28=s28,vs 29=s29,vs 30=s30,vs 31=sr,vs 32=qw,vs 33=qM,vs 34=qX,vs 35=lN,vs 36=lI,vs 37=lR,vs 38=nu,vs 39=nS,vs 40=s40,vs 41=s41,vs 42=s42,vs 43=s43,vs 44=s44,vs 45=s45,vs 46=s46,vs 47=s47,vs 48=s48,vs 49=s49,vs 50=yp,vs 51=s51,vs 52=s52,vs 53=s53;clear bg q54;go_wp2;go_ret;exact⟨Pl.aq wE.out.symm,ah fN.out hX⟩
  have nK:Hid (∀ X:World,Bel wq X→Calls Tryz.prog 29 #[.string x.kind,.slice ax x.lines.length cx] X fun e w'=>e=.returned (.bool true)∧Bel X w'):=wB.out;clear wB;by_cases ga:k=0
  ·have jN:¬ 0<k:=by omega
   have Oh:decide (k=0)=true:=by simpa using ga
   rw[Oh]at kf;clear ga Oh;obtain⟨y,ay,cy,b⟩:Pl.Bl×Option Addr×Nat×Bool:=⟨Pl.aN,none,0,false⟩
   refine RY.aH wq zR (VSd x ax cx k m b1) (C6 _ _ _ _ _ _) (by kernel_rfl) (by kernel_rfl) (by kernel_rfl) (by kernel_rfl) ?_ ?_
   ·intro i o' ho a X hX hk hd;have z0:=(fU.out.later hX).get 0 _ rfl;have z1:=(fU.out.later hX).get 1 _ rfl;have z2:=(fU.out.later hX).get 2 _ rfl;have rx:=(fU.out.later hX).at_;have zb:=(cL.out.later hX).get 0 _ rfl;match i,ho with
    |0,rfl=>
     exact RY.n (RY.p (.pointer (some ⟨b1,0,none⟩)) (by simp[execOp,go_sem,RY.K hk 4 (.pointer (some ⟨b1,0,none⟩))]))
    |1,rfl=>
     exact RY.n (RY.p (.string x.kind) (by simp[execOp,go_sem,RY.E hd 0 21,z0]))
    |2,rfl=>
     have e22:=RY.E hd 1 22;refine Or.inl ⟨RY.au rfl,Or.inr ⟨27,#[.string x.kind],by simp[go_sem,e22],(EF.out X).mono ?_⟩⟩;rintro e W' ⟨v,F,rfl,hr,_,_,hb⟩;obtain⟨a1,c1,hv⟩:=hr.raw.bm;exact⟨_,rfl,hb,a1,c1,by rw[HM.out];exact hv⟩
    |3,rfl=>
     obtain⟨a1,c1,e230⟩:=hd 2 _ 23 rfl rfl ⟨⟨2,.data⟩,by simp,rfl,rfl⟩;have e23:=(RY.af a 23).trans e230;exact RY.n (RY.p (.int .i64 (m:Int)) (by simp[go_sem,e23]))
    |4,rfl=>
     exact RY.n (RY.p (.bool false) (by simp[execOp,go_sem,RY.E hd 3 24,oJ]))
    |5,rfl=>
     exact RY.n (RY.p (.bool false) (by simp[execOp,go_sem,RY.E hd 4 25]))
    |6,rfl=>
     exact RY.on hd 5 26 (RY.p (.pointer (some ⟨b1,1,none⟩)) (by simp[execOp,go_sem,RY.K hk 4 (.pointer (some ⟨b1,0,none⟩))]))
    |7,rfl=>
     exact RY.on hd 5 26 (RY.p (.string x.name) (by simp[execOp,go_sem,RY.E hd 6 27,z1]))
    |8,rfl=>
     have e28:=RY.E hd 7 28;refine RY.on hd 5 26 (.inr ⟨28,#[.string x.name],by simp[go_sem,e28],(qi.out X).mono ?_⟩);rintro e W' ⟨rfl,rfl⟩;exact⟨_,rfl,zR,rfl⟩
    |9,rfl=>
     exact RY.on hd 5 26 (RY.p (.bool false) (by simp[execOp,go_sem,RY.E hd 8 29]))
    |10,rfl=>
     exact RY.n (RY.p (.bool false) (by simp[execOp,go_sem,RY.E hd 5 26,RY.E hd 9 30]))
    |11,rfl=>
     exact RY.n (RY.p (.bool false) (by simp[execOp,go_sem,RY.E hd 10 31]))
    |12,rfl=>
     exact RY.on hd 11 32 (RY.p (.pointer (some ⟨b1,0,none⟩)) (by simp[execOp,go_sem,RY.K hk 4 (.pointer (some ⟨b1,0,none⟩))]))
    |13,rfl=>
     exact RY.on hd 11 32 (RY.p (.string x.kind) (by simp[execOp,go_sem,RY.E hd 12 33,z0]))
    |14,rfl=>
     exact RY.on hd 11 32 (RY.p (.pointer (some ⟨b1,2,none⟩)) (by simp[execOp,go_sem,RY.K hk 4 (.pointer (some ⟨b1,0,none⟩))]))
    |15,rfl=>
     exact RY.on hd 11 32 (RY.p (.slice ax x.lines.length cx) (by simp[execOp,go_sem,RY.E hd 14 35,z2]))
    |16,rfl=>
     have e34:=RY.E hd 13 34;have e36:=RY.E hd 15 36;refine RY.on hd 11 32 (.inr ⟨29,#[.string x.kind,.slice ax x.lines.length cx],by simp[go_sem,e34,e36],(nK.out X hX).mono ?_⟩);rintro e W' ⟨rfl,hb⟩;exact⟨_,rfl,hb,rfl⟩
    |17,rfl=>
     exact RY.on hd 11 32 (RY.p (.bool false) (by simp[execOp,go_sem,RY.E hd 16 37]))
    |18,rfl=>
     exact RY.n (RY.p (.bool false) (by simp[execOp,go_sem,RY.E hd 11 32,RY.E hd 17 38]))
    |19,rfl=>
     exact RY.n (RY.p (.bool false) (by simp[execOp,go_sem,RY.E hd 18 39]))
    |20,rfl=>
     exact RY.on hd 19 40 (RY.p (.int .i64 (k:Int)) (by simp[execOp,go_sem,RY.K hk 3 (.int .i64 (k:Int))]))
    |21,rfl=>
     exact RY.on hd 19 40 (RY.p (.bool false) (by simp[execOp,go_sem,RY.E hd 20 41,jN]))
    |22,rfl=>
     exact RY.on hd 19 40 (RY.p (.bool false) (by simp[execOp,go_sem,RY.E hd 21 42]))
    |23,rfl|24,rfl|25,rfl|26,rfl|27,rfl|28,rfl|29,rfl|30,rfl|31,rfl=>
     exact RY.off hd 22 43
    |32,rfl=>
     exact RY.on hd 19 40 (RY.p (.bool false) (by simp[execOp,go_sem,RY.E hd 22 43,RY.E hd 31 52]))
    |33,rfl=>
     exact RY.n (RY.p (.bool false) (by simp[execOp,go_sem,RY.E hd 19 40,RY.E hd 32 53]))
    |n+34,ho=>simp at ho
   intro X vs hX bg;have q54:vs 54=_:=bg 33 _ 54 rfl rfl;simp only[RY.aC,Act.put,List.setIfInBounds_toArray,List.set_cons_zero,List.set_cons_succ];rw[q54];generalize vs 21=s21,vs 22=s22,vs 23=s23,vs 24=s24,vs 25=s25,vs 26=s26,vs 27=s27,vs 28=s28,vs 29=s29,vs 30=s30,vs 31=sr,vs 32=qw,vs 33=qM,vs 34=qX,vs 35=lN,vs 36=lI,vs 37=lR,vs 38=nu,vs 39=nS,vs 40=s40,vs 41=s41,vs 42=s42,vs 43=s43,vs 44=s44,vs 45=s45,vs 46=s46,vs 47=s47,vs 48=s48,vs 49=s49,vs 50=yp,vs 51=s51,vs 52=s52,vs 53=s53;clear bg q54;clear jN oJ;have tF:=uh (Pl.eJ HI.out (by rw[kf.out];simp));replace fN:=uh (ah fN.out hX)
   replace cL:=uh (cL.out.later hX)
   clear hX;go_wp2;go_roundw
   case rel=>exact⟨k+1,by omega,by go_num,fN.out,cL.out,tF.out⟩
   case measure=>simp[intOf];omega
  obtain⟨ay,cy,nx⟩:=su.out (k - 1) (by omega);have Oh:decide (k=0)=false:=by simpa using ga
  rw[Oh]at kf;obtain⟨y,hy⟩:∃ y,y=s.getD (k - 1) Pl.aN:=⟨_,rfl⟩
  rw[← hy]at nx kf;have FN:=uh nx;have MC:=uh (fun X=>l4 y x (.slice ay y.lines.length cy) (.slice ax x.lines.length cx) X);obtain⟨b,hb⟩:∃ b,b=Pl.ahead y x:=⟨_,rfl⟩
  rw[← hb]at MC kf;have P3:Hid (∀ X,Calls Tryz.prog 30 #[.agg #[.string y.kind,.string y.name,.slice ay y.lines.length cy],.agg #[.string x.kind,.string x.name,.slice ax x.lines.length cx]] X fun e w'=>e=.returned (.bool b)∧Bel X w'):=MC.out;have jN:0<k:=by omega
  have LY:IntKind.i64.wrap ((k:Int) - 1)=(k:Int) - 1:=IntWalk.i64_in _ ⟨by omega,by omega⟩;have ns:(1:Int)≤(k:Int):=by omega
  have qj:(k:Int) - 1<(n:Int):=by omega
  have M6:((k:Int) - 1).toNat=k - 1:=by omega
  clear nx hy hb MC Oh ga;refine RY.aH wq zR (VSe x y ax ay cx cy p o n vc k m b0 b1 b) (Eo _ _ _ _ _ _ _ _ _ _ _ _ _ _ _) (by kernel_rfl) (by kernel_rfl) (by kernel_rfl) (by kernel_rfl) ?_ ?_
  ·intro i o' ho a X hX hk hd;have z0:=(fU.out.later hX).get 0 _ rfl;have z1:=(fU.out.later hX).get 1 _ rfl;have z2:=(fU.out.later hX).get 2 _ rfl;have rx:=(fU.out.later hX).at_;have zb:=(cL.out.later hX).get 0 _ rfl;have ry:=aB FN.out HP.out hX;match i,ho with
   |0,rfl=>
    exact RY.n (RY.p (.pointer (some ⟨b1,0,none⟩)) (by simp[execOp,go_sem,RY.K hk 4 (.pointer (some ⟨b1,0,none⟩))]))
   |1,rfl=>
    exact RY.n (RY.p (.string x.kind) (by simp[execOp,go_sem,RY.E hd 0 21,z0]))
   |2,rfl=>
    have e22:=RY.E hd 1 22;refine Or.inl ⟨RY.au rfl,Or.inr ⟨27,#[.string x.kind],by simp[go_sem,e22],(EF.out X).mono ?_⟩⟩;rintro e W' ⟨v,F,rfl,hr,_,_,hb⟩;obtain⟨a1,c1,hv⟩:=hr.raw.bm;exact⟨_,rfl,hb,a1,c1,by rw[HM.out];exact hv⟩
   |3,rfl=>
    obtain⟨a1,c1,e230⟩:=hd 2 _ 23 rfl rfl ⟨⟨2,.data⟩,by simp,rfl,rfl⟩;have e23:=(RY.af a 23).trans e230;exact RY.n (RY.p (.int .i64 (m:Int)) (by simp[go_sem,e23]))
   |4,rfl=>
    exact RY.n (RY.p (.bool false) (by simp[execOp,go_sem,RY.E hd 3 24,oJ]))
   |5,rfl=>
    exact RY.n (RY.p (.bool false) (by simp[execOp,go_sem,RY.E hd 4 25]))
   |6,rfl=>
    exact RY.on hd 5 26 (RY.p (.pointer (some ⟨b1,1,none⟩)) (by simp[execOp,go_sem,RY.K hk 4 (.pointer (some ⟨b1,0,none⟩))]))
   |7,rfl=>
    exact RY.on hd 5 26 (RY.p (.string x.name) (by simp[execOp,go_sem,RY.E hd 6 27,z1]))
   |8,rfl=>
    have e28:=RY.E hd 7 28;refine RY.on hd 5 26 (.inr ⟨28,#[.string x.name],by simp[go_sem,e28],(qi.out X).mono ?_⟩);rintro e W' ⟨rfl,rfl⟩;exact⟨_,rfl,zR,rfl⟩
   |9,rfl=>
    exact RY.on hd 5 26 (RY.p (.bool false) (by simp[execOp,go_sem,RY.E hd 8 29]))
   |10,rfl=>
    exact RY.n (RY.p (.bool false) (by simp[execOp,go_sem,RY.E hd 5 26,RY.E hd 9 30]))
   |11,rfl=>
    exact RY.n (RY.p (.bool false) (by simp[execOp,go_sem,RY.E hd 10 31]))
   |12,rfl=>
    exact RY.on hd 11 32 (RY.p (.pointer (some ⟨b1,0,none⟩)) (by simp[execOp,go_sem,RY.K hk 4 (.pointer (some ⟨b1,0,none⟩))]))
   |13,rfl=>
    exact RY.on hd 11 32 (RY.p (.string x.kind) (by simp[execOp,go_sem,RY.E hd 12 33,z0]))
   |14,rfl=>
    exact RY.on hd 11 32 (RY.p (.pointer (some ⟨b1,2,none⟩)) (by simp[execOp,go_sem,RY.K hk 4 (.pointer (some ⟨b1,0,none⟩))]))
   |15,rfl=>
    exact RY.on hd 11 32 (RY.p (.slice ax x.lines.length cx) (by simp[execOp,go_sem,RY.E hd 14 35,z2]))
   |16,rfl=>
    have e34:=RY.E hd 13 34;have e36:=RY.E hd 15 36;refine RY.on hd 11 32 (.inr ⟨29,#[.string x.kind,.slice ax x.lines.length cx],by simp[go_sem,e34,e36],(nK.out X hX).mono ?_⟩);rintro e W' ⟨rfl,hb⟩;exact⟨_,rfl,hb,rfl⟩
   |17,rfl=>
    exact RY.on hd 11 32 (RY.p (.bool false) (by simp[execOp,go_sem,RY.E hd 16 37]))
   |18,rfl=>
    exact RY.n (RY.p (.bool false) (by simp[execOp,go_sem,RY.E hd 11 32,RY.E hd 17 38]))
   |19,rfl=>
    exact RY.n (RY.p (.bool false) (by simp[execOp,go_sem,RY.E hd 18 39]))
   |20,rfl=>
    exact RY.on hd 19 40 (RY.p (.int .i64 (k:Int)) (by simp[execOp,go_sem,RY.K hk 3 (.int .i64 (k:Int))]))
   |21,rfl=>
    exact RY.on hd 19 40 (RY.p (.bool true) (by simp[execOp,go_sem,RY.E hd 20 41,jN]))
   |22,rfl=>
    exact RY.on hd 19 40 (RY.p (.bool true) (by simp[execOp,go_sem,RY.E hd 21 42]))
   |23,rfl=>
    exact RY.on hd 22 43 (RY.p (.pointer (some ⟨b0,0,none⟩)) (by simp[execOp,go_sem,RY.K hk 1 (.pointer (some ⟨b0,0,none⟩))]))
   |24,rfl=>
    exact RY.on hd 22 43 (RY.p (.slice (some ⟨p,o,none⟩) n vc) (by simp[execOp,go_sem,RY.E hd 23 44,zb]))
   |25,rfl=>
    exact RY.on hd 22 43 (RY.p (.int .i64 (k:Int)) (by simp[execOp,go_sem,RY.K hk 3 (.int .i64 (k:Int))]))
   |26,rfl=>
    exact RY.on hd 22 43 (RY.p (.int .i64 ((k:Int) - 1)) (by simp[execOp,go_sem,RY.E hd 25 46,LY]))
   |27,rfl=>
    exact RY.on hd 22 43 (RY.p (.pointer (some ⟨p,o+(k - 1)*3,none⟩)) (by simp[execOp,go_sem,RY.E hd 24 45,RY.E hd 26 47,ns,qj,M6]))
   |28,rfl=>
    have gd:=hd 22 _ 43 rfl rfl ⟨⟨22,.guard⟩,by simp,rfl,rfl⟩;exact Or.inl ⟨(RY.aj rfl rfl rfl gd).trans rfl,Or.inl ⟨.agg #[.string y.kind,.string y.name,.slice ay y.lines.length cy],X,ar 41 _ rfl p (o+(k - 1)*3) ((RY.af a 48).symm.trans (RY.E hd 27 48)) [.string y.kind,.string y.name,.slice ay y.lines.length cy] _ ry Tryz.underlying41 rfl (by kernel_rfl),zR,rfl⟩⟩
   |29,rfl=>
    have gd:=hd 22 _ 43 rfl rfl ⟨⟨22,.guard⟩,by simp,rfl,rfl⟩;exact Or.inl ⟨(RY.aj rfl rfl rfl gd).trans rfl,Or.inl ⟨.agg #[.string x.kind,.string x.name,.slice ax x.lines.length cx],X,ar 41 _ rfl b1 0 ((RY.af a 4).symm.trans (RY.K hk 4 (.pointer (some ⟨b1,0,none⟩)))) [.string x.kind,.string x.name,.slice ax x.lines.length cx] _ rx Tryz.underlying41 rfl (by kernel_rfl),zR,rfl⟩⟩
   |30,rfl=>
    have e49:=RY.E hd 28 49;have e50:=RY.E hd 29 50;refine RY.on hd 22 43 (.inr ⟨30,#[.agg #[.string y.kind,.string y.name,.slice ay y.lines.length cy],.agg #[.string x.kind,.string x.name,.slice ax x.lines.length cx]],by simp[go_sem,e49,e50],(P3.out X).mono ?_⟩);rintro e W' ⟨rfl,hb⟩;exact⟨_,rfl,hb,rfl⟩
   |31,rfl=>
    exact RY.on hd 22 43 (RY.p (.bool (!b)) (by simp[execOp,go_sem,RY.E hd 30 51]))
   |32,rfl=>
    exact RY.on hd 19 40 (RY.p (.bool (!b)) (by simp[execOp,go_sem,RY.E hd 22 43,RY.E hd 31 52]))
   |33,rfl=>
    exact RY.n (RY.p (.bool (!b)) (by simp[execOp,go_sem,RY.E hd 19 40,RY.E hd 32 53]))
   |n+34,ho=>simp at ho
  intro X vs hX bg;have q54:vs 54=_:=bg 33 _ 54 rfl rfl;simp only[RY.aC,Act.put,List.setIfInBounds_toArray,List.set_cons_zero,List.set_cons_succ];rw[q54];generalize vs 21=s21,vs 22=s22,vs 23=s23,vs 24=s24,vs 25=s25,vs 26=s26,vs 27=s27,vs 28=s28,vs 29=s29,vs 30=s30,vs 31=sr,vs 32=qw,vs 33=qM,vs 34=qX,vs 35=lN,vs 36=lI,vs 37=lR,vs 38=nu,vs 39=nS,vs 40=s40,vs 41=s41,vs 42=s42,vs 43=s43,vs 44=s44,vs 45=s45,vs 46=s46,vs 47=s47,vs 48=s48,vs 49=s49,vs 50=yp,vs 51=s51,vs 52=s52,vs 53=s53;clear bg q54;clear jN oJ LY ns qj M6;cases b
  ·have wE:Hid (Pl.bH s=false):=tN.out (by rw[kf.out];rfl);go_wp2;go_ret;exact⟨Pl.aq wE.out.symm,ah fN.out hX⟩
  ·skip
   have tF:=uh (Pl.eJ HI.out (by rw[kf.out];simp));replace fN:=uh (ah fN.out hX)
   replace cL:=uh (cL.out.later hX)
   clear hX;go_wp2;go_roundw
   case rel=>exact⟨k+1,by omega,by go_num,fN.out,cL.out,tF.out⟩
   case measure=>simp[intOf];omega
end Go.Proofs.YtopjjknojnfhmaaGreatDoor
