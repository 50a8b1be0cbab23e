import Derived.Deep.DeepCutAuto
import Derived.Test.YtopjjknojnfhmaaGreatDoorRgFs
import Derived.Test.YtopjjknojnfhmaaGreatDoorERu
import Derived.Test.YtopjjknojnfhmaaGreatDoorEPn
namespace Go.Proofs.YtopjjknojnfhmaaGreatDoor
set_option maxRecDepth 8000
set_option maxHeartbeats 40000000
open Go.RowKit Go.Deep
def J4 (W:World) (R:Nat) (v:Value) (n:Nat):Prop:=
 (∃ a c,v=.slice a 0 c∧n=0)∨∃ b off cap,v=.slice (some ⟨b,off,none⟩) n cap∧b<R∧∀ i,i<n→∃ x:Int,0≤x∧x<256∧W.cell? ⟨b,off+i,none⟩=some (.int .u8 x)
structure Rd (W:World) (R:Nat) (v:Value) (n:Nat) (p:Nat):Prop where
 own:aV W R 81 2
 c0:W.cell? ⟨R,0,none⟩=some v
 c1:W.cell? ⟨R,1,none⟩=some (.int .i64 (p:Nat))
 len:n≤2000
 code:J4 W R v n
structure Fr (R:Nat) (W W':World):Prop where
 bel:Below R W W'
 blk:∀ k,R<k→k<W.heap.size→W'.heap[k]? =W.heap[k]?
theorem Fr.trans {R:Nat} {a b c:World} (h:Fr R a b) (k:Fr R b c):Fr R a c:=
 ⟨h.bel.trans k.bel,fun i h1 h2=>(k.blk i h1 (zL h2 h.bel.size)).trans (h.blk i h1 h2)⟩
theorem Fr.aG {R:Nat} {a b:World} (h:Bel a b) (hR:R<a.heap.size):Fr R a b:=
 ⟨h.mono (Nat.le_of_lt hR),fun k _ h2=>h.block k h2⟩
theorem Fr.pick {R:Nat} (W:World) (j:Nat) (u:Value):Fr R W (W.setCell ⟨R,j,none⟩ u):=
 ⟨zR.setCell (p:=⟨R,j,none⟩) zE u,fun k h1 _=>Below.heap_setCell _ _ _ _ (by show k≠R;omega)⟩
def lr (n r:Int):Prop:=0≤r∧(1≤n→r<n)∧(n<1→r=0)
theorem xg (Y:Int) (h0:0≤Y) (h1:Y≤1000000000000000):0≤bits BinOp.xor IntKind.i64 Y (Y / 64):=by
 obtain⟨y,rfl⟩:=Int.eq_ofNat_of_zero_le h0;have e:((y:Int) / 64)=((y / 64:Nat):Int):=(Int.natCast_ediv y 64).symm;rw[e];unfold bits;have hy:y<2 ^ 60:=by omega
 have hz:y / 64<2 ^ 60:=by omega
 have hx:y ^^^ (y / 64)<2 ^ 60:=Nat.xor_lt_two_pow hy hz;have t:(BitVec.ofInt IntKind.i64.bits (y:Int) ^^^ BitVec.ofInt IntKind.i64.bits ((y / 64:Nat):Int)).toNat=y ^^^ (y / 64):=by
  rw[BitVec.toNat_xor,BitVec.ofInt_natCast,BitVec.ofInt_natCast,BitVec.toNat_ofNat,BitVec.toNat_ofNat];rw[Nat.mod_eq_of_lt (a:=y),Nat.mod_eq_of_lt (a:=y / 64)]
  ·show y / 64<2 ^ 64;omega
  ·show y<2 ^ 64;omega
 show 0≤IntKind.i64.wrap _;rw[t,wrap_small _ (by omega) (by omega)];omega
theorem Rd.step {W:World} {R:Nat} {v:Value} {n p:Nat} (h:Rd W R v n p):Rd (W.setCell ⟨R,1,none⟩ (.int .i64 ((p:Int)+1))) R v n (p+1):=by
 refine⟨h.own.setCell 1 _,(ni _ _ _ _ _ _ (Or.inr (by omega))).trans h.c0, ?_,h.len, ?_⟩
 ·rw[uw h.own _ (by omega)];simp
 ·rcases h.code with hq|⟨b,off,cap,rfl,hb,hx⟩
  ·exact Or.inl hq
  ·refine Or.inr ⟨b,off,cap,rfl,hb,fun i hi=> ?_⟩;obtain⟨x,h0,h1,hc⟩:=hx i hi;exact⟨x,h0,h1,(ni _ _ _ _ _ _ (Or.inl (by omega))).trans hc⟩
theorem Rd.later {W W':World} {R:Nat} {v:Value} {n p:Nat} (h:Rd W R v n p) (hb:Bel W W'):Rd W' R v n p:=by
 have hl:=h.own.lt;refine⟨h.own.later hb,(hb.cell (p:=⟨R,0,none⟩) hl).trans h.c0,(hb.cell (p:=⟨R,1,none⟩) hl).trans h.c1,h.len, ?_⟩;rcases h.code with hq|⟨b,off,cap,rfl,eD,hx⟩
 ·exact Or.inl hq
 ·refine Or.inr ⟨b,off,cap,rfl,eD,fun i hi=> ?_⟩;obtain⟨x,h0,h1,hc⟩:=hx i hi;exact⟨x,h0,h1,(hb.cell (p:=⟨b,off+i,none⟩) (by show b<_;omega)).trans hc⟩
theorem Fr.drewN {R:Nat} {a b:World} (h:Fr R a b) (n:Nat):Fr R a (b.drewN n):=⟨⟨h.bel.os,h.bel.tape,h.bel.output,h.bel.size,h.bel.block⟩,h.blk⟩
theorem Cn (w:World) (p:Addr) (u:Value):(w.setCell p u).heap.size=w.heap.size:=by simp[World.setCell]
theorem bb (R:Nat) (v:Value) (len p:Nat) (n:Int) (W:World) (h:Rd W R v len p) (hp:p≤1000000000000) (hn:n≤1000):
  Calls Tryz.prog 12 #[.pointer (some ⟨R,0,none⟩),.int .i64 n] W fun e W'=>(∃ r:Int,e=.returned (.int .i64 r)∧lr n r)∧Fr R W W'∧Rd W' R v len (p+1):=by
 have JN:=h.own.frozen;have bd:=h.own.lt;have x0:=h.c0;have x1:=h.c1;have hlen:=h.len;obtain⟨W1,ia⟩:∃ W1,W1=W.setCell ⟨R,1,none⟩ (.int .i64 ((p:Int)+1)):=⟨_,rfl⟩
 have HC:Hid (J4 W1 R v len):=by
  rcases h.code with hq|⟨b,off,cap,rfl,hb,hx⟩
  ·exact Or.inl hq
  ·refine Or.inr ⟨b,off,cap,rfl,hb,fun i hi=> ?_⟩;obtain⟨x,h0,h1,hc⟩:=hx i hi;refine⟨x,h0,h1, ?_⟩;rw[ia,ni _ _ _ _ _ _ (Or.inl (by omega))];exact hc
 have y0:W1.cell? ⟨R,0,none⟩=some v:=by rw[ia,ni _ _ _ _ _ _ (Or.inr (by omega))];exact x0
 have y1:W1.cell? ⟨R,1,none⟩=some (.int .i64 ((p:Int)+1)):=by rw[ia,uw h.own _ (by omega)]
 have dJ:R<W1.heap.size:=by rw[ia,Cn];exact bd
 have nQ:Hid (∀ k,Fr R W (W1.drewN k)∧Rd (W1.drewN k) R v len (p+1)):=fun k=>by rw[ia];exact⟨(Fr.pick W 1 _).drewN k,h.step.later (eL zR k)⟩
 clear h;go_enter Tryz.func12,Tryz.ntmps12
 go_upto_region 2 with fail
 rw[← ia];clear ia;rcases HC.out with⟨a,c,rfl,rfl⟩|⟨b,off,cap,rfl,hb,hx⟩
 ·by_cases c1:n<1
  ·go_wp2;go_ret;exact⟨⟨0,rfl,by unfold lr;omega⟩,nQ.out 0⟩
  ·go_wp2;go_ret;exact⟨⟨0,rfl,by unfold lr;omega⟩,nQ.out 0⟩
 ·by_cases c1:n<1
  ·go_wp2;go_ret;exact⟨⟨0,rfl,by unfold lr;omega⟩,nQ.out 0⟩
  by_cases c2:len=0
  ·subst c2;go_wp2;go_ret;exact⟨⟨0,rfl,by unfold lr;omega⟩,nQ.out 0⟩
  by_cases c3:p<len
  ·obtain⟨x,h0,h1,hc⟩:=hx p c3;have hbz:b<W1.heap.size:=by omega
   have MO:¬ ((len:Int)=0):=by omega
   have c3':((p:Int)<(len:Int)):=by omega
   go_wp2;go_ret;refine⟨⟨_,rfl, ?_⟩,nQ.out 0⟩;have e1:=Int.emod_nonneg x (b:=n) (by omega);have e2:=Int.emod_lt_of_pos x (b:=n) (by omega);unfold lr;omega
  ·obtain⟨m1,e1⟩:∃ m1:Nat,m1=p % len:=⟨_,rfl⟩
   obtain⟨m2,e2⟩:∃ m2:Nat,m2=(p*7+3) % len:=⟨_,rfl⟩
   have k1:m1<len:=by rw[e1];exact Nat.mod_lt _ (by omega)
   have k2:m2<len:=by rw[e2];exact Nat.mod_lt _ (by omega)
   have f1:(p:Int) % (len:Int)=(m1:Int):=by rw[e1];exact(Int.natCast_emod p len).symm
   have f2:((p:Int)*7+3) % (len:Int)=(m2:Int):=by rw[e2,Int.natCast_emod];norm_cast
   obtain⟨m3,e3⟩:∃ m3:Nat,m3=p / len:=⟨_,rfl⟩
   have f3:(p:Int) / (len:Int)=(m3:Int):=by rw[e3];exact(Int.natCast_ediv p len).symm
   have k3:m3≤1000000000000:=by rw[e3];exact Nat.le_trans (Nat.div_le_self p len) hp
   clear e1 e2 e3;obtain⟨x,h0,h1,hc⟩:=hx _ k1;obtain⟨z,g0,g1,gc⟩:=hx _ k2;have hbz:b<W1.heap.size:=by omega
   have MO:¬ ((len:Int)=0):=by omega
   have c3':¬ ((p:Int)<(len:Int)):=by omega
   go_wp2;go_quiet (fail)
   obtain⟨Y,hY⟩:∃ Y:Int,Y=x*131+z*1117+(p:Int)*29+(m3:Int)*53:=⟨_,rfl⟩
   have hY0:0≤Y:=by omega
   have hY1:Y≤1000000000000000:=by omega
   rw[← hY];clear hY;have hz:=xg Y hY0 hY1;obtain⟨Z,hZ⟩:∃ Z,Z=bits BinOp.xor IntKind.i64 Y (Y / 64):=⟨_,rfl⟩
   rw[← hZ]at hz;have hZ':=hZ.symm;clear hZ;go_wp2;go_ret;refine⟨⟨_,rfl, ?_⟩,nQ.out nq⟩;have e1:=Int.emod_nonneg Z (b:=n) (by omega);have e2:=Int.emod_lt_of_pos Z (b:=n) (by omega);unfold lr;omega
theorem Fr.cell {R:Nat} {a b:World} (h:Fr R a b) {k j:Nat} (h1:R<k) (h2:k<a.heap.size):b.cell? ⟨k,j,none⟩=a.cell? ⟨k,j,none⟩:=by
 simp only[World.cell?];rw[h.blk k h1 h2]
theorem yI (m s:Nat):(2*m+1)*s=m*(s+s)+s:=by
 rw[Nat.add_mul,Nat.mul_assoc,Nat.mul_add];omega
theorem uT (m s:Nat):(2*m)*s=m*(s+s):=by
 rw[Nat.mul_assoc,Nat.mul_add];omega
theorem j9 (s0:ByteArray) (n0 N:Nat) (W:World) (h1:s0.size≤4) (h2:n0≤1000) (hT:n0*s0.size≤N) (hN4:N≤4000):
  Calls Tryz.prog 15 #[.string s0,.int .i64 (n0:Nat)] W fun e W'=>(∃ s:ByteArray,e=.returned (.string s)∧s.size≤N)∧W=W':=by
 go_enter Tryz.func15,Tryz.ntmps15
 go_wp2;go_loopw [0,1,5] (fun s i o wr=>∃ (sb ob:ByteArray) (n:Nat),s=.string sb∧o=.string ob∧i=.int .i64 (n:Nat)∧ob.size+n*sb.size≤N∧n≤1000∧(1≤n→sb.size≤4000)∧wr=W) (fun _ i _ _=>(intOf i).toNat)
 case atStart=>exact⟨s0,⟨#[]⟩,n0,rfl,rfl,rfl,by have:(⟨#[]⟩:ByteArray).size=0:=rfl;omega,h2,fun _=>by omega,rfl⟩
 case round=>
  obtain⟨sb,ob,n,rfl,rfl,rfl,hs,hn,hsb,rfl⟩:=hrel;have HS:Hid (ob.size+n*sb.size≤N):=hs;have BR:ob.size≤N:=by have:=Nat.zero_le (n*sb.size);omega
  clear hs;by_cases c0:n=0
  ·subst c0;go_wp2;go_ret;exact⟨⟨ob,rfl,BR⟩,rfl⟩
  ·have hsb':=hsb (by omega);have c1:(0:Int)<(n:Int):=by omega
   obtain⟨m,hm⟩:∃ m:Nat,m=n / 2:=⟨_,rfl⟩
   have f1:((n:Int) / 2)=(m:Int):=by omega
   by_cases c2:n % 2=1
   ·have f2:((n:Int) % 2)=1:=by omega
    have HN:Hid (n=2*m+1):=by show n=_;omega
    have qj:m<n:=by omega
    clear hm;go_wp2;go_roundw
    case rel=>
     refine⟨sb++sb,ob++sb,m,rfl,rfl,by go_num, ?_,by omega,fun h=> ?_,trivial⟩
     ·have h:=HS.out;rw[HN.out,yI]at h;rw[ByteArray.size_append,ByteArray.size_append];omega
     ·have h':=HS.out;rw[HN.out,yI]at h';have:1*(sb.size+sb.size)≤m*(sb.size+sb.size):=Nat.mul_le_mul_right _ h;rw[ByteArray.size_append];omega
    case measure=>simp[intOf];omega
   ·have f2:((n:Int) % 2)=0:=by omega
    have HN:Hid (n=2*m):=by show n=_;omega
    have qj:m<n:=by omega
    clear hm;go_wp2;go_roundw
    case rel=>
     refine⟨sb++sb,ob,m,rfl,rfl,by go_num, ?_,by omega,fun h=> ?_,trivial⟩
     ·have h:=HS.out;rw[HN.out,uT]at h;rw[ByteArray.size_append];omega
     ·have h':=HS.out;rw[HN.out,uT]at h';have:1*(sb.size+sb.size)≤m*(sb.size+sb.size):=Nat.mul_le_mul_right _ h;rw[ByteArray.size_append];omega
    case measure=>simp[intOf];omega
theorem vM (s0:ByteArray) (n0:Nat) (W:World) (h1:s0.size≤4) (h2:n0≤1000):
  Calls Tryz.prog 15 #[.string s0,.int .i64 (n0:Nat)] W fun e W'=>(∃ s:ByteArray,e=.returned (.string s)∧s.size≤4000)∧W=W':=j9 s0 n0 4000 W h1 h2 (Nat.mul_le_mul h2 h1) zE
def jw (W:World) (v:Value):Prop:=
 (∃ a c,v=.slice a 0 c)∨∃ b off n cap,v=.slice (some ⟨b,off,none⟩) n cap∧b<W.heap.size∧n≤cap∧cap≤maxLen∧∀ i,i<n→∃ x:Int,0≤x∧x<256∧W.cell? ⟨b,off+i,none⟩=some (.int .u8 x)
theorem jw.later {W W':World} {v:Value} (h:jw W v) (hb:Bel W W'):jw W' v:=by
 rcases h with h|⟨b,off,n,cap,rfl,h1,h2,h4,h3⟩
 ·exact Or.inl h
 ·refine Or.inr ⟨b,off,n,cap,rfl,zL h1 hb.size,h2,h4,fun i hi=> ?_⟩;obtain⟨x,x0,x1,hx⟩:=h3 i hi;exact⟨x,x0,x1,(hb.cell (p:=⟨b,off+i,none⟩) h1).trans hx⟩
theorem xQ (W:World) (v:Value) (n:Nat) (hn:n≤2000) (h:J4 W W.heap.size v n):Rd (W.alloc (.cells #[v,.int .i64 0] 81)) W.heap.size v n 0:=by
 refine⟨aV.alloc _ _ _ _ rfl,by rw[World.cell?_alloc_at _ _ _ _ rfl];rfl,by rw[World.cell?_alloc_at _ _ _ _ rfl];rfl,hn, ?_⟩;rcases h with h|⟨b,off,cap,rfl,hb,hx⟩
 ·exact Or.inl h
 ·refine Or.inr ⟨b,off,cap,rfl,hb,fun i hi=> ?_⟩;obtain⟨x,x0,x1,hx⟩:=hx i hi;exact⟨x,x0,x1,((ae zR _:Bel W _).cell (p:=⟨b,off+i,none⟩) hb).trans hx⟩
theorem uE (v:Value) (W:World) (h:jw W v):
  Calls Tryz.prog 11 #[v] W fun e W'=>(∃ (v':Value) (len:Nat),e=.returned (.pointer (some ⟨W.heap.size,0,none⟩))∧Rd W' W.heap.size v' len 0)∧Bel W W':=by
 rcases h with⟨a,c,rfl⟩|⟨b,off,n,cap,rfl,h1,h2,h4,h3⟩
 ·have HN:Hid (Rd (W.alloc (.cells #[.slice a 0 c,.int .i64 0] 81)) W.heap.size (.slice a 0 c) 0 0):=xQ W _ 0 (by omega) (Or.inl ⟨a,c,rfl,rfl⟩);go_enter Tryz.func11,Tryz.ntmps11
  go_wp2;go_ret
  first|exact⟨⟨_,_,rfl,HN.out⟩,ae zR _⟩|exact⟨⟨rfl,_,_,HN.out⟩,ae zR _⟩
 ·unfold maxLen at h4;by_cases c0:2000<n
  ·have HN:Hid (Rd (W.alloc (.cells #[.slice (some ⟨b,off,none⟩) 2000 cap,.int .i64 0] 81)) W.heap.size (.slice (some ⟨b,off,none⟩) 2000 cap) 2000 0):=xQ W _ 2000 (by omega) (Or.inr ⟨b,off,cap,rfl,h1,fun i hi=>h3 i (by omega)⟩);have c1:(2000:Int)<(n:Int):=by omega
   clear h3;go_enter Tryz.func11,Tryz.ntmps11
   go_wp2;go_ret
   first|exact⟨⟨_,_,rfl,HN.out⟩,ae zR _⟩|exact⟨⟨rfl,_,_,HN.out⟩,ae zR _⟩
  ·have HN:Hid (Rd (W.alloc (.cells #[.slice (some ⟨b,off,none⟩) n cap,.int .i64 0] 81)) W.heap.size (.slice (some ⟨b,off,none⟩) n cap) n 0):=xQ W _ n (by omega) (Or.inr ⟨b,off,cap,rfl,h1,h3⟩);have c1:¬ (2000:Int)<(n:Int):=by omega
   clear h3;go_enter Tryz.func11,Tryz.ntmps11
   go_wp2;go_ret
   first|exact⟨⟨_,_,rfl,HN.out⟩,ae zR _⟩|exact⟨⟨rfl,_,_,HN.out⟩,ae zR _⟩
namespace RY
theorem He (L:Array Bool) (i:Nat) (h:L.getD i true=false):(L.setIfInBounds i true).toList.count true=L.toList.count true+1:=by
 have hi:i<L.size:=by
  rcases Nat.lt_or_ge i L.size with q|q
  ·exact q
  ·have:L.getD i true=true:=by simp[Array.getD,Nat.not_lt.2 q]
   rw[this]at h;cases h
 have hv:L.toList[i]'(by simpa using hi)=false:=by
  have:L.getD i true=L[i]:=by simp[Array.getD,hi]
  rw[this]at h;simpa using h
 rw[Array.toList_setIfInBounds,List.count_set (by simpa using hi),hv];simp
theorem CV (L:Array Bool):L.toList.count true≤L.size:=by
 have:=List.count_le_length (a:=true) (l:=L.toList);simpa using this
def OpF (P:Program) (R:Nat) (v:Value) (len:Nat) (V:Nat→Value→World→Prop) (p:Nat) (i:Nat) (o:Oper) (a:Act) (W:World):Prop:=
 (∃ u W',(execOp a.eval o).run P W=.ok (.value u) W'∧Bel W W'∧V i u W')∨
 (∃ f args,(execOp a.eval o).run P W=.ok (.enter f args) W∧Calls P f args W fun e W'=>∃ u,e=.returned u∧Fr R W W'∧(∃ q,q≤p+10∧Rd W' R v len q)∧V i u W')
theorem AM {P:Program} {id:Nat} {Q:Exit→Act→World→Prop} {a0:Act} {w:World} {l:List Oper} (R:Nat) (v:Value) (len p0:Nat) (hr:Rd w R v len p0) (V:Nat→Value→World→Prop) (hVm:∀ j u W W',Fr R W W'→R<W.heap.size→V j u W→V j u W') (hm:P.follows .mixedOrders=true)
  (hasc:asc .any l.toArray=true) (hap:di l=true) (dr:dK l a0.tmps.size=true)
  (iH:∀ (i:Nat) (o:Oper),l[i]? =some o→∀ (a:Act) (W:World) (p:Nat),Fr R w W→Rd W R v len p→p≤p0+10*l.length→(∀ k,cP l k=true→a.eval (.tmp k)=a0.eval (.tmp k))→
   (∀ (j:Nat) (o':Oper) (k:Nat),l[j]? =some o'→o'.dst=some k→(∃ e∈o.after,e.on=j∧Region.binds .any e=true)→V j (a.eval (.tmp k)) W)→OpF P R v len V p i o a W)
  (dt:∀ (W:World) (vs:Nat→Value) (p:Nat),Fr R w W→Rd W R v len p→p≤p0+10*l.length→(∀ (i:Nat) (o:Oper) (k:Nat),l[i]? =some o→o.dst=some k→V i (vs k) W)→Q .normal (aC l a0 vs) W):
  (Code.region id l.toArray true).wp P Q a0 w:=by
 have kR:Bel w w.drew:=Below.drew zR;refine px (fun L W=>L.size=l.length∧Fr R w W∧∃ p,p≤p0+10*L.toList.count true∧Rd W R v len p) V hm hasc dr ⟨by simp,Fr.aG kR hr.own.lt,p0,by omega,hr.later kR⟩ ?_ ?_
 ·intro L a W i o h _ ho hi bs;have hg:=(bO dr ho).1;obtain⟨mP,hF,p,hp,hR⟩:=h.cw;have mJ:=CV L;have lQ:=He L i hi;have NN:(L.setIfInBounds i true).size=l.length:=by simpa using mP
  rcases iH i o ho a W p hF hR (by omega) (fun k hk=>h.bo hk) (fun j o' k hj hk ⟨e,he,mM,hb⟩=>h.new j o' k hj hk (by rw[← mM];exact bs e he hb)) with⟨u,W',Fa,hb,hV⟩|⟨f,args,Fa,hk⟩
  ·have N7:=Fr.aG (R:=R) hb hR.own.lt;exact gA (by simpa using ho) hg Fa (h.step hap dr ho hi ⟨NN,hF.trans N7,p,by omega,hR.later hb⟩ (fun j x hx=>hVm j x W W' N7 hR.own.lt hx) (fun _=>hV))
  ·refine iW (by simpa using ho) hg Fa (hk.mono ?_);rintro e W' ⟨u,rfl,N7,⟨q,hq,Hn⟩,hV⟩;exact⟨u,rfl,h.step hap dr ho hi ⟨NN,hF.trans N7,q,by omega,Hn⟩ (fun j x hx=>hVm j x W W' N7 hR.own.lt hx) (fun _=>hV)⟩
 ·rintro L W vs _ ⟨mP,hF,p,hp,hR⟩ hV;have mJ:=CV L;exact dt W vs p hF hR (by omega) hV
end RY
namespace RY
theorem CP (up:Nat→Bool) (i n:Nat) (hi:i<n) (h:up i=false):(List.range n).countP (fun j=>(j==i)||up j)=(List.range n).countP up+1:=by
 induction n with
 |zero=>omega
 |succ n ih=>
  rw[List.range_succ,List.countP_append,List.countP_append,List.countP_singleton,List.countP_singleton];by_cases e:i=n
  ·subst e;have:(List.range i).countP (fun j=>(j==i)||up j)=(List.range i).countP up:=by
    apply List.countP_congr;intro j hj;have:=List.mem_range.1 hj;have e:(j==i)=false:=by simp;omega
    rw[e];simp
   rw[this,h];simp
  ·rw[ih (by omega)];have e2:(n==i)=false:=by simp;omega
   rw[e2];simp;omega
theorem Gj (up:Nat→Bool) (i n:Nat) (hi:n≤i):(List.range n).countP (fun j=>(j==i)||up j)=(List.range n).countP up:=by
 apply List.countP_congr;intro j hj;have:=List.mem_range.1 hj;have e:(j==i)=false:=by simp;omega
 rw[e];simp
theorem En (up:Nat→Bool) (n:Nat):(List.range n).countP up≤n:=by
 have:=List.countP_le_length (p:=up) (l:=List.range n);simpa using this
theorem nf {P:Program} {id:Nat} {Q:Exit→Act→World→Prop} {a0:Act} {w:World} {l:List Oper} (R:Nat) (vv:Value) (len p0:Nat) (wL:Rd w R vv len p0) (V:Nat→Value→World→Prop) (hVm:∀ j u W W',Fr R W W'→R<W.heap.size→V j u W→V j u W') (K K2:Value→World→Prop) (pv:Value) (n fuel kL kP:Nat)
  (hm:P.follows .mixedOrders=true) (hasc:asc .any l.toArray=true) (hap:di l=true) (dr:dK l a0.tmps.size=true)
  (hclo:((List.range n).all fun i=>(clo l fuel [n]).contains i)=true) (hlen:l.length=n+3) (ks:((l.take (n+2)).all fun o=>o.dst.isSome)=true)
  (oL oP oS:Oper) (hL:l[n]? =some oL) (hLd:oL.dst=some kL) (hP:l[n+1]? =some oP) (hPd:oP.dst=some kP) (hS:l[n+2]? =some oS) (hSd:oS.dst=none) (hSL:waits l (n+2) n=true) (hSP:waits l (n+2) (n+1)=true)
  (iH:∀ (i:Nat) (o:Oper),l[i]? =some o→i<n→∀ (a:Act) (W:World) (p:Nat),Fr R w W→Rd W R vv len p→p≤p0+1000*n→(∀ k,cP l k=true→a.eval (.tmp k)=a0.eval (.tmp k))→
   (∀ (j:Nat) (o':Oper) (k:Nat),l[j]? =some o'→o'.dst=some k→(∃ e∈o.after,e.on=j∧Region.binds .any e=true)→j<n→V j (a.eval (.tmp k)) W)→
   (∃ u W',(execOp a.eval o).run P W=.ok (.value u) W'∧Bel W W'∧V i u W')∨(∃ f args,(execOp a.eval o).run P W=.ok (.enter f args) W∧Calls P f args W fun e W'=>∃ u,e=.returned u∧Fr R W W'∧(∃ q,q≤p+1000∧Rd W' R vv len q)∧V i u W'))
  (kS:∀ (a:Act) (W:World) (p:Nat),Fr R w W→Rd W R vv len p→p≤p0+1000*n→(∀ k,cP l k=true→a.eval (.tmp k)=a0.eval (.tmp k))→
   (∀ (j:Nat) (o':Oper) (k:Nat),l[j]? =some o'→o'.dst=some k→(∃ e∈oL.after,e.on=j∧Region.binds .any e=true)→j<n→V j (a.eval (.tmp k)) W)→
   ∃ u W',(execOp a.eval oL).run P W=.ok (.value u) W'∧K u W')
  (Jw:∀ (a:Act) (W:World),(∀ k,cP l k=true→a.eval (.tmp k)=a0.eval (.tmp k))→(execOp a.eval oP).run P W=.ok (.value pv) W)
  (qz:∀ (a:Act) (W:World),K (a.eval (.tmp kL)) W→a.eval (.tmp kP)=pv→∃ W',(execOp a.eval oS).run P W=.ok .skip W'∧K2 (a.eval (.tmp kL)) W')
  (dt:∀ (vs:Nat→Value) (W:World),K2 (vs kL) W→vs kP=pv→Q .normal (aC l a0 vs) W):
  (Code.region id l.toArray true).wp P Q a0 w:=by
 have eQ:∀ {i:Nat} {o:Oper},l[i]? =some o→i<n+2→o.dst.isSome=true:=fun h hi=>by
  rw[List.all_eq_true]at ks;exact ks _ (List.mem_of_getElem? ((List.getElem?_take_of_lt hi).trans h))
 refine j4 (fun _ _=>True) (fun up vals W=>(up n=false→up (n+2)=false∧(Fr R w W∧∃ p,p≤p0+1000*(List.range n).countP up∧Rd W R vv len p)∧∀ j,j<n→up j=true→V j (vals j) W)∧(up n=true→up (n+2)=false→K (vals n) W)∧(up (n+1)=true→vals (n+1)=pv)∧(up (n+2)=true→K2 (vals n) W)) hm hasc hap dr ?_ ?_ ?_
 ·intro vals;exact⟨fun _=>⟨rfl,⟨Fr.aG (Below.drew zR) wL.own.lt,p0,by omega,wL.later (Below.drew zR)⟩,fun _ _ h=>(by cases h)⟩,fun h=>(by cases h),fun h=>(by cases h),fun h=>(by cases h)⟩
 ·intro up vals i o ho hi eN a W hk hd hT;have oE:∀ k,cP l k=true→a.eval (.tmp k)=a0.eval (.tmp k):=fun k h=>hk k fun j o' hj hj'=>absurd hj' (i6 h hj);have bs:up n=true→∀ j,j<n→up j=true:=fun hn j hj=>by
   rw[List.all_eq_true]at hclo;have:=hclo j (List.mem_range.2 hj);rw[List.contains_iff_mem]at this;exact gm eN fuel [n] (by simpa using hn) j this
  have nt:i<n+3:=by rw[← hlen];exact(List.getElem?_eq_some_iff.1 ho).1
  have Pw:up (n+2)=true→up n=true∧up (n+1)=true:=fun h=>by
   obtain⟨e,he,h4,h5⟩:=aU hSL hS;obtain⟨e',Sq,Q7,R8⟩:=aU hSP hS;exact⟨by have:=eN (n+2) oS e hS he h5 h;rwa [h4]at this,by have:=eN (n+2) oS e' hS Sq R8 h;rwa [Q7]at this⟩
  by_cases h1:i<n
  ·have hn:up n=false:=by
    cases e:up n
    ·rfl
    ·rw[bs e i h1]at hi;cases hi
   obtain⟨tZ,hB,hV⟩:=hT.1 hn;obtain⟨hF,p,hp,hR⟩:=hB;have IB:=En up n;have Lg:=iH i o ho h1 a W p hF hR (by omega) oE
    (fun j o' k hj jg gK lJ=>by
     obtain⟨q1,q2,_⟩:=hd j o' k hj jg gK;rw[q2];exact hV j lJ q1)
   have e0:n≠i:=by omega
   have e1:n+1≠i:=by omega
   have e2:n+2≠i:=by omega
   have O9:∀ u W',Fr R W W'→(∃ q,q≤p+1000∧Rd W' R vv len q)→V i u W'→(((fun j=>(j==i)||up j) n=false→(fun j=>(j==i)||up j) (n+2)=false∧(Fr R w W'∧∃ p,p≤p0+1000*(List.range n).countP (fun j=>(j==i)||up j)∧Rd W' R vv len p)∧∀ j,j<n→(fun j=>(j==i)||up j) j=true→V j ((fun j=>if j=i then u else vals j) j) W')∧((fun j=>(j==i)||up j) n=true→(fun j=>(j==i)||up j) (n+2)=false→K ((fun j=>if j=i then u else vals j) n) W')∧((fun j=>(j==i)||up j) (n+1)=true→(fun j=>if j=i then u else vals j) (n+1)=pv)∧((fun j=>(j==i)||up j) (n+2)=true→K2 ((fun j=>if j=i then u else vals j) n) W')):=by
    intro u W' hb ⟨q,hq,Hn⟩ hu;refine⟨fun _=>⟨?_,⟨hF.trans hb,q,Nat.le_trans hq (Nat.le_trans (Nat.add_le_add_right hp 1000) (by rw[CP up i n h1 hi,Nat.mul_add,Nat.mul_one,Nat.add_assoc];exact zE)),Hn⟩,fun j hj qp=> ?_⟩,fun h=> ?_,fun h=> ?_,fun h=> ?_⟩
    ·simpa [e2]using tZ
    ·by_cases e:j=i
     ·subst e;dsimp only;rw[if_pos rfl];exact hu
     ·dsimp only;rw[if_neg e]
      have:up j=true:=by simpa [e]using qp
      exact hVm _ _ _ _ hb hR.own.lt (hV j hj this)
    ·have:up n=true:=by simpa [e0]using h
     rw[hn]at this;cases this
    ·dsimp only;rw[if_neg e1];exact hT.2.2.1 (by simpa [e1]using h)
    ·have:up (n+2)=true:=by simpa [e2]using h
     rw[tZ]at this;cases this
   rcases Lg with⟨u,W',hr,hb,hu⟩|⟨f,args,hr,hc⟩
   ·exact Or.inl ⟨u,W',hr,eQ ho (by omega),trivial,O9 u W' (Fr.aG hb hR.own.lt) ⟨p,by omega,hR.later hb⟩ hu⟩
   ·exact Or.inr (Or.inr ⟨f,args,hr,eQ ho (by omega),hc.mono fun e W' ⟨u,he,hb,hq,hu⟩=>⟨u,he,trivial,O9 u W' hb hq hu⟩⟩)
  ·by_cases h2:i=n
   ·subst h2;obtain⟨tZ,hB,hV⟩:=hT.1 hi;obtain rfl:o=oL:=Option.some.inj (ho.symm.trans hL);obtain⟨hF,p,hp,hR⟩:=hB;have IB:=En up i;obtain⟨u,W',hr,hK⟩:=kS a W p hF hR (by omega) oE
     (fun j o' k hj jg gK lJ=>by
      obtain⟨q1,q2,_⟩:=hd j o' k hj jg gK;rw[q2];exact hV j lJ q1)
    have e1:i+1≠i:=by omega
    have e2:i+2≠i:=by omega
    refine Or.inl ⟨u,W',hr,eQ ho (by omega),trivial,⟨fun h=>by simp at h,fun _ _=>by dsimp only;rw[if_pos rfl];exact hK,fun h=> ?_,fun h=> ?_⟩⟩
    ·dsimp only;rw[if_neg e1];exact hT.2.2.1 (by simpa [e1]using h)
    ·have:up (i+2)=true:=by simpa [e2]using h
     rw[tZ]at this;cases this
   ·by_cases h3:i=n+1
    ·subst h3;obtain rfl:o=oP:=Option.some.inj (ho.symm.trans hP);have tZ:up (n+2)=false:=by
      cases e:up (n+2)
      ·rfl
      ·rw[(Pw e).2]at hi;cases hi
     have e0:n≠n+1:=by omega
     have e2:n+2≠n+1:=by omega
     refine Or.inl ⟨pv,W,Jw a W oE,eQ ho (by omega),trivial,⟨fun h=> ?_,fun h _=> ?_,fun _=> ?_,fun h=> ?_⟩⟩
     ·obtain⟨q1,q2,q3⟩:=hT.1 (by simpa [e0]using h);refine⟨by simpa [e2]using q1,by rw[Gj up (n+1) n (by omega)];exact q2,fun j hj qp=> ?_⟩;have e:j≠n+1:=by omega
      dsimp only;rw[if_neg e];exact q3 j hj (by simpa [e]using qp)
     ·dsimp only;rw[if_neg e0];exact hT.2.1 (by simpa [e0]using h) tZ
     ·dsimp only;rw[if_pos rfl]
     ·have:up (n+2)=true:=by simpa [e2]using h
      rw[tZ]at this;cases this
    ·have h4:i=n+2:=by omega
     subst h4;obtain rfl:o=oS:=Option.some.inj (ho.symm.trans hS);obtain⟨u1,q1,_⟩:=hd n oL kL hL hLd (by obtain⟨e,he,h4,h5⟩:=aU hSL hS;exact⟨e,he,h4,h5⟩);obtain⟨u2,q2,_⟩:=hd (n+1) oP kP hP hPd (by obtain⟨e,he,h4,h5⟩:=aU hSP hS;exact⟨e,he,h4,h5⟩);obtain⟨W',hr,Hi⟩:=qz a W (by rw[q1];exact hT.2.1 u1 hi) (by rw[q2];exact hT.2.2.1 u2);refine Or.inr (Or.inl ⟨W',hr,hSd,⟨fun h=> ?_,fun _ h=> ?_,fun _=>hT.2.2.1 u2,fun _=>by rw[← q1];exact Hi⟩⟩)
     ·dsimp only at h;rw[u1]at h;simp at h
     ·simp at h
 ·intro up vals vs W qp bg hT;have h1:=bg n oL kL hL hLd;have h2:=bg (n+1) oP kP hP hPd;refine dt vs W ?_ ?_
  ·rw[h1.1];exact hT.2.2.2 (qp (n+2) (by omega))
  ·rw[h2.1];exact hT.2.2.1 (qp (n+1) (by omega))
end RY
theorem gp (l:List ByteArray) (W:World) (i:Nat) (hi:i<l.length):(W.alloc (.cells (l.map Value.string).toArray 9)).cell? ⟨W.heap.size,i,none⟩=some (.string (l.getD i ⟨#[]⟩)):=by
 refine(World.cell?_alloc_at _ _ _ _ rfl).trans ?_;simp[hi]
theorem fG (l:List ByteArray) (i:Nat) (hi:i<l.length) (n:Nat) (h:∀ x∈l,x.size≤n):(l.getD i ⟨#[]⟩).size≤n:=by
 have e:l.getD i ⟨#[]⟩=l[i]:=by simp[hi]
 rw[e];exact h _ (List.getElem_mem hi)
theorem lr.nat {n r:Int} (h:lr n r):∃ k:Nat,r=(k:Int)∧(1≤n→(k:Int)<n):=by
 obtain⟨k,rfl⟩:=Int.eq_ofNat_of_zero_le h.1;exact⟨k,rfl,h.2.1⟩
def DrA (R:Nat) (v:Value) (len p:Nat) (W W':World):Prop:=Fr R W W'∧∃ p',p'≤p+1000∧Rd W' R v len p'
theorem Dm (R:Nat) (v:Value) (len p:Nat) (W:World) (h:Rd W R v len p) (hp:p≤900000000000):
  Calls Tryz.prog 123 #[.pointer (some ⟨R,0,none⟩)] W fun e W'=>(∃ s:ByteArray,e=.returned (.string s)∧s.size≤4000)∧DrA R v len p W W':=by
 have HP:=uh (bb R v len p 2 W h (by omega) (by omega));clear h;go_enter Tryz.func123,Tryz.ntmps123
 go_wp2_with fail
 refine HP.out.mono ?_;rintro e W1 ⟨⟨r,rfl,hr⟩,oF,mL⟩;obtain⟨k,rfl,hk⟩:=hr.nat;have Ps:k=0∨k=1:=by have:=hk (by omega);omega
 have FT:=uh oF;have iL:=uh mL;clear hr hk oF mL HP;have ON:Hid (∀ X,Calls Tryz.prog 15 #[.string {data:=#[116]},.int .i64 200] X fun e W'=>(∃ s:ByteArray,e=.returned (.string s)∧s.size≤4000)∧X=W'):=fun X=>vM {data:=#[116]} 200 X (by decide) (by decide);have wi:Hid (∀ X,Calls Tryz.prog 15 #[.string {data:=#[116]},.int .i64 199] X fun e W'=>(∃ s:ByteArray,e=.returned (.string s)∧s.size≤4000)∧X=W'):=fun X=>vM {data:=#[116]} 199 X (by decide) (by decide);rcases Ps with rfl|rfl
 ·go_wp2_with fail
  refine(ON.out _).mono ?_;rintro e W2 ⟨⟨s,rfl,hs⟩,gI⟩;subst gI;have HP:=uh (fun o=>bb R v len (p+1) 8 (W1.alloc o) (iL.out.later (ae zR o)) (by omega) (by omega));clear ON wi;go_wp2_with fail
  refine(HP.out _).mono ?_;rintro e W3 ⟨⟨r,rfl,hr⟩,nR,mC⟩;obtain⟨i,rfl,hi⟩:=hr.nat;have Mg:i<8:=by have:=hi (by omega);omega
  clear hr hi HP;obtain⟨l,hl⟩:∃ l:List ByteArray,l=[{data:=#[122,111,110,101,61,101,97,115,116]},{data:=#[115,115,100,32,124,32,33,111,108,100]},{data:=#[]},{data:=#[113,34,117,92,111,10,255]},{data:=#[97,35,98]},{data:=#[120]},{data:=#[116,119,111,32,119,111,114,100,115]},s]:=⟨_,rfl⟩
  have fJ:l.length=8:=by rw[hl];rfl
  have ie:Hid (∀ x∈l,x.size≤4000):=by
   intro x hx;rw[hl]at hx;simp only[List.mem_cons,List.mem_nil_iff,or_false]at hx;rcases hx with rfl|rfl|rfl|rfl|rfl|rfl|rfl|rfl
   all_goals first|exact hs|decide
  have hc:W3.cell? ⟨W1.heap.size,i,none⟩=some (.string (l.getD i ⟨#[]⟩)):=by
   refine(nR.cell (iL.out.own.lt) (by simp)).trans ?_;have:=gp l W1 i (by omega);rw[hl]at this ⊢;exact this
  obtain⟨x,hx⟩:∃ x,x=l.getD i ⟨#[]⟩:=⟨_,rfl⟩
  have wu:Hid (x.size≤4000):=by rw[hx];exact fG l i (by omega) 4000 ie.out
  rw[← hx]at hc;have HE:Hid (DrA R v len p W W3):=⟨(FT.out.trans (Fr.aG (ae zR _) iL.out.own.lt)).trans nR,p+1+1,by omega,mC⟩
  have Rb:W1.heap.size<W3.heap.size:=by have:=nR.bel.size;simp at this;omega
  have gF:(0:Int)≤(i:Int):=by omega
  have eO:(i:Int)<8:=by omega
  clear hx hl fJ nR mC FT iL ie;go_wp2;go_ret;exact⟨⟨x,rfl,wu.out⟩,HE.out⟩
 ·go_wp2_with fail
  refine(wi.out _).mono ?_;rintro e W2 ⟨⟨s,rfl,hs⟩,gI⟩;subst gI;have HP:=uh (fun o=>bb R v len (p+1) 8 (W1.alloc o) (iL.out.later (ae zR o)) (by omega) (by omega));clear ON wi;go_wp2_with fail
  refine(HP.out _).mono ?_;rintro e W3 ⟨⟨r,rfl,hr⟩,nR,mC⟩;obtain⟨i,rfl,hi⟩:=hr.nat;have Mg:i<8:=by have:=hi (by omega);omega
  clear hr hi HP;obtain⟨l,hl⟩:∃ l:List ByteArray,l=[{data:=#[122,111,110,101,61,101,97,115,116]},{data:=#[115,115,100,32,124,32,33,111,108,100]},{data:=#[]},{data:=#[113,34,117,92,111,10,255]},{data:=#[97,35,98]},{data:=#[120]},{data:=#[116,119,111,32,119,111,114,100,115]},s]:=⟨_,rfl⟩
  have fJ:l.length=8:=by rw[hl];rfl
  have ie:Hid (∀ x∈l,x.size≤4000):=by
   intro x hx;rw[hl]at hx;simp only[List.mem_cons,List.mem_nil_iff,or_false]at hx;rcases hx with rfl|rfl|rfl|rfl|rfl|rfl|rfl|rfl
   all_goals first|exact hs|decide
  have hc:W3.cell? ⟨W1.heap.size,i,none⟩=some (.string (l.getD i ⟨#[]⟩)):=by
   refine(nR.cell (iL.out.own.lt) (by simp)).trans ?_;have:=gp l W1 i (by omega);rw[hl]at this ⊢;exact this
  obtain⟨x,hx⟩:∃ x,x=l.getD i ⟨#[]⟩:=⟨_,rfl⟩
  have wu:Hid (x.size≤4000):=by rw[hx];exact fG l i (by omega) 4000 ie.out
  rw[← hx]at hc;have HE:Hid (DrA R v len p W W3):=⟨(FT.out.trans (Fr.aG (ae zR _) iL.out.own.lt)).trans nR,p+1+1,by omega,mC⟩
  have Rb:W1.heap.size<W3.heap.size:=by have:=nR.bel.size;simp at this;omega
  have gF:(0:Int)≤(i:Int):=by omega
  have eO:(i:Int)<8:=by omega
  clear hx hl fJ nR mC FT iL ie;go_wp2;go_ret;exact⟨⟨x,rfl,wu.out⟩,HE.out⟩
theorem pE (R:Nat) (v:Value) (len p:Nat) (t:Int) (W:World) (h:Rd W R v len p) (hp:p≤900000000000):
  Calls Tryz.prog 105 #[.pointer (some ⟨R,0,none⟩),.int .i64 t] W fun e W'=>(∃ s:ByteArray,e=.returned (.string s)∧s.size≤4000)∧DrA R v len p W W':=by
 have HR:=uh h;clear h;by_cases h1:t=1
 ·subst h1;go_enter Tryz.func105,Tryz.ntmps105
  have HP:=uh (fun o=>bb R v len p 6 (W.alloc o) (HR.out.later (ae zR o)) (by omega) (by omega));go_wp2_with fail
  refine(HP.out _).mono ?_;rintro e W9 ⟨⟨r,rfl,hr⟩,iK,wk⟩;obtain⟨i,rfl,hi⟩:=hr.nat;have Mg:i<6:=by have:=hi (by omega);omega
  clear hr hi HP;obtain⟨l,hl⟩:∃ l:List ByteArray,l=[{data:=#[48]},{data:=#[49]},{data:=#[50]},{data:=#[55]},{data:=#[49,48,48]},{data:=#[49,48,48,48,48,48,48]}]:=⟨_,rfl⟩
  have fJ:l.length=6:=by rw[hl];rfl
  have ie:Hid (∀ x∈l,x.size≤4000):=by
   intro x hx;rw[hl]at hx;simp only[List.mem_cons,List.mem_nil_iff,or_false]at hx;rcases hx with rfl|rfl|rfl|rfl|rfl|rfl
   all_goals first|decide
  have hc:W9.cell? ⟨W.heap.size,i,none⟩=some (.string (l.getD i ⟨#[]⟩)):=by
   refine(iK.cell (HR.out.own.lt) (by simp)).trans ?_;have:=gp l W i (by omega);rw[hl]at this ⊢;exact this
  obtain⟨x,hx⟩:∃ x,x=l.getD i ⟨#[]⟩:=⟨_,rfl⟩
  have wu:Hid (x.size≤4000):=by rw[hx];exact fG l i (by omega) 4000 ie.out
  rw[← hx]at hc;have HE:Hid (DrA R v len p W W9):=⟨(Fr.aG (ae zR _) HR.out.own.lt).trans iK,p+1,by omega,wk⟩
  have Ff:W.heap.size<W9.heap.size:=by have:=iK.bel.size;simp at this;omega
  have gF:(0:Int)≤(i:Int):=by omega
  have eO:(i:Int)<6:=by omega
  clear hx hl fJ iK wk ie HR;go_wp2;go_ret;exact⟨⟨x,rfl,wu.out⟩,HE.out⟩
 by_cases h2:t=2
 ·subst h2;go_enter Tryz.func105,Tryz.ntmps105
  have HP:=uh (fun o=>bb R v len p 5 (W.alloc o) (HR.out.later (ae zR o)) (by omega) (by omega));go_wp2_with fail
  refine(HP.out _).mono ?_;rintro e W9 ⟨⟨r,rfl,hr⟩,iK,wk⟩;obtain⟨i,rfl,hi⟩:=hr.nat;have Mg:i<5:=by have:=hi (by omega);omega
  clear hr hi HP;obtain⟨l,hl⟩:∃ l:List ByteArray,l=[{data:=#[48]},{data:=#[45,49]},{data:=#[53]},{data:=#[45,57]},{data:=#[45,49,48,48,48,48,48,48]}]:=⟨_,rfl⟩
  have fJ:l.length=5:=by rw[hl];rfl
  have ie:Hid (∀ x∈l,x.size≤4000):=by
   intro x hx;rw[hl]at hx;simp only[List.mem_cons,List.mem_nil_iff,or_false]at hx;rcases hx with rfl|rfl|rfl|rfl|rfl
   all_goals first|decide
  have hc:W9.cell? ⟨W.heap.size,i,none⟩=some (.string (l.getD i ⟨#[]⟩)):=by
   refine(iK.cell (HR.out.own.lt) (by simp)).trans ?_;have:=gp l W i (by omega);rw[hl]at this ⊢;exact this
  obtain⟨x,hx⟩:∃ x,x=l.getD i ⟨#[]⟩:=⟨_,rfl⟩
  have wu:Hid (x.size≤4000):=by rw[hx];exact fG l i (by omega) 4000 ie.out
  rw[← hx]at hc;have HE:Hid (DrA R v len p W W9):=⟨(Fr.aG (ae zR _) HR.out.own.lt).trans iK,p+1,by omega,wk⟩
  have Ff:W.heap.size<W9.heap.size:=by have:=iK.bel.size;simp at this;omega
  have gF:(0:Int)≤(i:Int):=by omega
  have eO:(i:Int)<5:=by omega
  clear hx hl fJ iK wk ie HR;go_wp2;go_ret;exact⟨⟨x,rfl,wu.out⟩,HE.out⟩
 by_cases h3:t=3
 ·subst h3;go_enter Tryz.func105,Tryz.ntmps105
  have HP:=uh (fun o=>bb R v len p 4 (W.alloc o) (HR.out.later (ae zR o)) (by omega) (by omega));go_wp2_with fail
  refine(HP.out _).mono ?_;rintro e W9 ⟨⟨r,rfl,hr⟩,iK,wk⟩;obtain⟨i,rfl,hi⟩:=hr.nat;have Mg:i<4:=by have:=hi (by omega);omega
  clear hr hi HP;obtain⟨l,hl⟩:∃ l:List ByteArray,l=[{data:=#[99,111,114,101]},{data:=#[122]},{data:=#[101,97,115,116]},{data:=#[97,45,49]}]:=⟨_,rfl⟩
  have fJ:l.length=4:=by rw[hl];rfl
  have ie:Hid (∀ x∈l,x.size≤4000):=by
   intro x hx;rw[hl]at hx;simp only[List.mem_cons,List.mem_nil_iff,or_false]at hx;rcases hx with rfl|rfl|rfl|rfl
   all_goals first|decide
  have hc:W9.cell? ⟨W.heap.size,i,none⟩=some (.string (l.getD i ⟨#[]⟩)):=by
   refine(iK.cell (HR.out.own.lt) (by simp)).trans ?_;have:=gp l W i (by omega);rw[hl]at this ⊢;exact this
  obtain⟨x,hx⟩:∃ x,x=l.getD i ⟨#[]⟩:=⟨_,rfl⟩
  have wu:Hid (x.size≤4000):=by rw[hx];exact fG l i (by omega) 4000 ie.out
  rw[← hx]at hc;have HE:Hid (DrA R v len p W W9):=⟨(Fr.aG (ae zR _) HR.out.own.lt).trans iK,p+1,by omega,wk⟩
  have Ff:W.heap.size<W9.heap.size:=by have:=iK.bel.size;simp at this;omega
  have gF:(0:Int)≤(i:Int):=by omega
  have eO:(i:Int)<4:=by omega
  clear hx hl fJ iK wk ie HR;go_wp2;go_ret;exact⟨⟨x,rfl,wu.out⟩,HE.out⟩
 by_cases h5:t=5
 ·subst h5;go_enter Tryz.func105,Tryz.ntmps105
  have HP:=uh (fun o=>bb R v len p 2 (W.alloc o) (HR.out.later (ae zR o)) (by omega) (by omega));go_wp2_with fail
  refine(HP.out _).mono ?_;rintro e W9 ⟨⟨r,rfl,hr⟩,iK,wk⟩;obtain⟨i,rfl,hi⟩:=hr.nat;have Mg:i<2:=by have:=hi (by omega);omega
  clear hr hi HP;obtain⟨l,hl⟩:∃ l:List ByteArray,l=[{data:=#[121,101,115]},{data:=#[110,111]}]:=⟨_,rfl⟩
  have fJ:l.length=2:=by rw[hl];rfl
  have ie:Hid (∀ x∈l,x.size≤4000):=by
   intro x hx;rw[hl]at hx;simp only[List.mem_cons,List.mem_nil_iff,or_false]at hx;rcases hx with rfl|rfl
   all_goals first|decide
  have hc:W9.cell? ⟨W.heap.size,i,none⟩=some (.string (l.getD i ⟨#[]⟩)):=by
   refine(iK.cell (HR.out.own.lt) (by simp)).trans ?_;have:=gp l W i (by omega);rw[hl]at this ⊢;exact this
  obtain⟨x,hx⟩:∃ x,x=l.getD i ⟨#[]⟩:=⟨_,rfl⟩
  have wu:Hid (x.size≤4000):=by rw[hx];exact fG l i (by omega) 4000 ie.out
  rw[← hx]at hc;have HE:Hid (DrA R v len p W W9):=⟨(Fr.aG (ae zR _) HR.out.own.lt).trans iK,p+1,by omega,wk⟩
  have Ff:W.heap.size<W9.heap.size:=by have:=iK.bel.size;simp at this;omega
  have gF:(0:Int)≤(i:Int):=by omega
  have eO:(i:Int)<2:=by omega
  clear hx hl fJ iK wk ie HR;go_wp2;go_ret;exact⟨⟨x,rfl,wu.out⟩,HE.out⟩
 by_cases h6:t=6
 ·subst h6;go_enter Tryz.func105,Tryz.ntmps105
  have HP:=uh (fun o=>bb R v len p 3 (W.alloc o) (HR.out.later (ae zR o)) (by omega) (by omega));go_wp2_with fail
  refine(HP.out _).mono ?_;rintro e W9 ⟨⟨r,rfl,hr⟩,iK,wk⟩;obtain⟨i,rfl,hi⟩:=hr.nat;have Mg:i<3:=by have:=hi (by omega);omega
  clear hr hi HP;obtain⟨l,hl⟩:∃ l:List ByteArray,l=[{data:=#[110,111,110,101]},{data:=#[98,101,114,116,104]},{data:=#[122,111,110,101]}]:=⟨_,rfl⟩
  have fJ:l.length=3:=by rw[hl];rfl
  have ie:Hid (∀ x∈l,x.size≤4000):=by
   intro x hx;rw[hl]at hx;simp only[List.mem_cons,List.mem_nil_iff,or_false]at hx;rcases hx with rfl|rfl|rfl
   all_goals first|decide
  have hc:W9.cell? ⟨W.heap.size,i,none⟩=some (.string (l.getD i ⟨#[]⟩)):=by
   refine(iK.cell (HR.out.own.lt) (by simp)).trans ?_;have:=gp l W i (by omega);rw[hl]at this ⊢;exact this
  obtain⟨x,hx⟩:∃ x,x=l.getD i ⟨#[]⟩:=⟨_,rfl⟩
  have wu:Hid (x.size≤4000):=by rw[hx];exact fG l i (by omega) 4000 ie.out
  rw[← hx]at hc;have HE:Hid (DrA R v len p W W9):=⟨(Fr.aG (ae zR _) HR.out.own.lt).trans iK,p+1,by omega,wk⟩
  have Ff:W.heap.size<W9.heap.size:=by have:=iK.bel.size;simp at this;omega
  have gF:(0:Int)≤(i:Int):=by omega
  have eO:(i:Int)<3:=by omega
  clear hx hl fJ iK wk ie HR;go_wp2;go_ret;exact⟨⟨x,rfl,wu.out⟩,HE.out⟩
 have d1:(t==1)=false:=by simp[h1]
 have d2:(t==2)=false:=by simp[h2]
 have d3:(t==3)=false:=by simp[h3]
 have d5:(t==5)=false:=by simp[h5]
 have d6:(t==6)=false:=by simp[h6]
 have HT:=uh (Dm R v len p W HR.out hp);clear h1 h2 h3 h5 h6 HR;go_enter Tryz.func105,Tryz.ntmps105
 go_wp2_with (go_at_call 123;refine HT.out.mono ?_;rintro e W1 ⟨⟨s,rfl,hs⟩,hd⟩)
 go_ret;exact⟨⟨s,rfl,hs⟩,hd⟩
theorem Cm (R:Nat) (v:Value) (len p:Nat) (W:World) (h:Rd W R v len p) (hp:p≤900000000000):
  Calls Tryz.prog 65 #[.pointer (some ⟨R,0,none⟩)] W fun e W'=>(∃ s:ByteArray,e=.returned (.string s)∧s.size≤250)∧DrA R v len p W W':=by
 have HP:=uh (bb R v len p 2 W h (by omega) (by omega));clear h;go_enter Tryz.func65,Tryz.ntmps65
 go_wp2_with fail
 refine HP.out.mono ?_;rintro e W1 ⟨⟨r,rfl,hr⟩,oF,mL⟩;obtain⟨m,rfl,hm⟩:=hr.nat;have tL:m<2:=by have:=hm (by omega);omega
 have FT:=uh oF;have iL:=uh mL;clear hr hm oF mL HP;obtain⟨m',PD,hm'⟩:∃ m':Nat,(20:Int)+(m:Int)=(m':Int)∧m'≤21:=⟨20+m,by omega,by omega⟩
 have HM:Hid (∀ X,Calls Tryz.prog 15 #[.string {data:=#[110]},.int .i64 (m':Int)] X fun e W'=>(∃ s:ByteArray,e=.returned (.string s)∧s.size≤250)∧X=W'):=fun X=>j9 {data:=#[110]} m' 250 X (by decide) (by omega) (by show m'*1≤250;omega) (by decide);have nO:Hid (∀ X,Calls Tryz.prog 15 #[.string {data:=#[116]},.int .i64 201] X fun e W'=>(∃ s:ByteArray,e=.returned (.string s)∧s.size≤250)∧X=W'):=fun X=>j9 {data:=#[116]} 201 250 X (by decide) (by decide) (by decide) (by decide);go_wp2_with fail
 refine(HM.out _).mono ?_;rintro e WX ⟨⟨sn,rfl,hsn⟩,PA⟩;subst PA;clear HM PD hm' tL;go_wp2_with fail
 refine(nO.out _).mono ?_;rintro e WX ⟨⟨st,rfl,qz⟩,PA⟩;subst PA;clear nO;have HP:=uh (fun o=>bb R v len (p+1) 12 (W1.alloc o) (iL.out.later (ae zR o)) (by omega) (by omega));go_wp2_with fail
 refine(HP.out _).mono ?_;rintro e W9 ⟨⟨r,rfl,hr⟩,iK,wk⟩;obtain⟨i,rfl,hi⟩:=hr.nat;have Mg:i<12:=by have:=hi (by omega);omega
 clear hr hi HP;obtain⟨l,hl⟩:∃ l:List ByteArray,l=[{data:=#[]},{data:=#[48,49]},{data:=#[45,48]},{data:=#[49,48,48,48,48,48,49]},{data:=#[49,50,51,52,53,54,55,56]},{data:=#[120,32,121]},{data:=#[67,111,114,101]},{data:=#[109,97,121,98,101]},sn,{data:=#[45]},{data:=#[43,49]},st]:=⟨_,rfl⟩
 have fJ:l.length=12:=by rw[hl];rfl
 have ie:Hid (∀ x∈l,x.size≤250):=by
  intro x hx;rw[hl]at hx;simp only[List.mem_cons,List.mem_nil_iff,or_false]at hx;rcases hx with rfl|rfl|rfl|rfl|rfl|rfl|rfl|rfl|rfl|rfl|rfl|rfl
  all_goals first|exact hsn|exact qz|decide
 have hc:W9.cell? ⟨W1.heap.size,i,none⟩=some (.string (l.getD i ⟨#[]⟩)):=by
  refine(iK.cell (iL.out.own.lt) (by simp)).trans ?_;have:=gp l W1 i (by omega);rw[hl]at this ⊢;exact this
 obtain⟨x,hx⟩:∃ x,x=l.getD i ⟨#[]⟩:=⟨_,rfl⟩
 have wu:Hid (x.size≤250):=by rw[hx];exact fG l i (by omega) 250 ie.out
 rw[← hx]at hc;have HE:Hid (DrA R v len p W W9):=⟨(FT.out.trans (Fr.aG (ae zR _) iL.out.own.lt)).trans iK,p+1+1,by omega,wk⟩
 have Ff:W1.heap.size<W9.heap.size:=by have:=iK.bel.size;simp at this;omega
 have gF:(0:Int)≤(i:Int):=by omega
 have eO:(i:Int)<12:=by omega
 clear hx hl fJ iK wk ie FT iL;go_wp2;go_ret;exact⟨⟨x,rfl,wu.out⟩,HE.out⟩
theorem Fr.mks {R:Nat} {S:Nat→Prop} {W X X':World} (h:Fr R W X) (hm:Marks S X X') (hR:∀ b,S b→W.heap.size≤b) (hl:R<W.heap.size):Fr R W X':=
 ⟨⟨hm.os.trans h.bel.os,hm.tape.trans h.bel.tape,hm.output.trans h.bel.output,Nat.le_trans h.bel.size hm.size,fun k hk=>(hm.block k (zL (by omega) h.bel.size) (fun e=>by have:=hR k e;omega)).trans (h.bel.block k hk)⟩,
  fun k h1 h2=>(hm.block k (zL h2 h.bel.size) (fun e=>by have:=hR k e;omega)).trans (h.blk k h1 h2)⟩
theorem Fr.i4 {R:Nat} {X X':World} {v v':Value} {n n' p p':Nat} (h:Fr R X X') (h1:Rd X R v n p) (h2:Rd X' R v' n' p'):Marks (fun b=>b=R) X X':=
 ⟨h.bel.os,h.bel.tape,h.bel.output,h.bel.size,fun p hp hn=>by
  rcases Nat.lt_or_ge p R with q|q
  ·exact h.bel.block p q
  ·exact h.blk p (by omega) hp,fun b t m hO=>by
  by_cases e:b=R
  ·subst e;obtain⟨c1,e1,s1⟩:=hO;obtain⟨c2,e2,s2⟩:=h1.own;rw[e1]at e2;injection e2 with e2
   injection e2 with e3 e4
   subst e3;subst e4;obtain⟨c3,e5,s3⟩:=h2.own;exact⟨c3,e5,by omega⟩
  ·obtain⟨c1,e1,s1⟩:=hO;have hb:b<X.heap.size:=(Array.getElem?_eq_some_iff.1 e1).1;refine⟨c1, ?_,s1⟩;rcases Nat.lt_or_ge b R with q|q
   ·exact(h.bel.block b q).trans e1
   ·exact(h.blk b (by omega) hb).trans e1⟩
theorem Rd.blk {W W':World} {R:Nat} {v:Value} {n p:Nat} (h:Rd W R v n p) (hb:∀ k,k≤R→W'.heap[k]? =W.heap[k]?):Rd W' R v n p:=by
 have hc:∀ b o,b≤R→W'.cell? ⟨b,o,none⟩=W.cell? ⟨b,o,none⟩:=fun b o hbR=>World.cell?_of_block (a:=⟨b,o,none⟩) (hb b hbR);obtain⟨cs,e,hm⟩:=h.own;refine⟨⟨cs,(hb R zE).trans e,hm⟩,(hc R 0 zE).trans h.c0,(hc R 1 zE).trans h.c1,h.len, ?_⟩;rcases h.code with hq|⟨b,off,cap,rfl,eD,hx⟩
 ·exact Or.inl hq
 ·refine Or.inr ⟨b,off,cap,rfl,eD,fun i hi=> ?_⟩;obtain⟨x,h0,h1,Hj⟩:=hx i hi;exact⟨x,h0,h1,(hc b _ (by omega)).trans Hj⟩
theorem Rd.mks {S:Nat→Prop} {W W':World} {R:Nat} {v:Value} {n p:Nat} (h:Rd W R v n p) (hm:Marks S W W') (hS:∀ b,S b→R<b):Rd W' R v n p:=
 h.blk fun k hk=>hm.block k (by have:=h.own.lt;omega) (fun e=>by have:=hS k e;omega)
theorem Rd.grown {W W':World} {R:Nat} {v:Value} {n p:Nat} {row:Option Nat} (h:Rd W R v n p) (hg:W.grownBy W' row) (hn:∀ b,row=some b→R<b):Rd W' R v n p:=
 h.blk fun k hk=>hg.block k (by have:=h.own.lt;omega) (fun e=>by have:=hn k e.symm;omega)
theorem Fr.grown {R:Nat} {W X X':World} {row:Option Nat} (h:Fr R W X) (hg:X.grownBy X' row) (hn:∀ b,row=some b→W.heap.size≤b) (hl:R<W.heap.size):Fr R W X':=by
 have hb:Below W.heap.size X X':=Below.grown zR hg h.bel.size fun q hq=>hn q hq;exact⟨h.bel.trans (hb.mono (by omega)),fun k h1 h2=>(hb.block k h2).trans (h.blk k h1 h2)⟩
theorem TxR.fr {R:Nat} {W W':World} {lo:Nat} {v:Value} {l:List ByteArray} (h:TxR W lo v l) (hF:Fr R W W') (hl:R<lo):TxR W' lo v l:=by
 refine⟨h.1,h.2.imp id ?_⟩;rintro⟨g,cap,cur,h1,h2,h3,h4⟩;exact⟨g,cap,cur,h1,h2,(hF.blk g (by omega) (Array.getElem?_eq_some_iff.1 h3).1).trans h3,h4⟩
theorem al.fr {R:Nat} {W W':World} {p:Nat} {u:TypeId} {cs:List Value} (h:al W p u cs) (hF:Fr R W W') (hl:R<p):al W' p u cs:=by
 have hb:=hF.blk p hl h.own.lt;obtain⟨qO,h1,h2⟩:=h.own;exact⟨⟨qO,hb.trans h1,h2⟩,cO h.at_ fun j _=>World.cell?_of_block (a:=⟨p,0+j,none⟩) hb⟩
structure LJ (W wr:World) (R B0 B6 B7:Nat) (r:Pl.Ru) (v1 v3 bv u:Value) (ws:List ByteArray):Prop where
 fr:Fr R W wr
 res:al wr B0 46 [.string {data:=#[]},.slice none 0 0]
 rul:al wr B6 96 [.string r.key,v1,.bool r.many,v3]
 rep:∃ F,Rep wr false aF F (ruD r) [.string r.key,v1,.bool r.many,v3]∧∀ b∈F,R<b∧b<B7
 box:al wr B7 46 [.string r.key,bv]
 row:TxR wr (B7+1) u ws
 ord:R<W.heap.size∧W.heap.size≤B0∧B0<B6∧B6<B7
theorem LJ.step {W wr X:World} {R B0 B6 B7:Nat} {r:Pl.Ru} {v1 v3 bv u:Value} {ws:List ByteArray} {v v':Value} {n n' p p':Nat} (h:LJ W wr R B0 B6 B7 r v1 v3 bv u ws) (hF:Fr R wr X) (h1:Rd wr R v n p) (h2:Rd X R v' n' p'):LJ W X R B0 B6 B7 r v1 v3 bv u ws:=by
 have ho:=h.ord;obtain⟨F,hr,hb⟩:=h.rep;exact⟨h.fr.trans hF,h.res.fr hF (by omega),h.rul.fr hF (by omega),⟨F,hr.bo (hF.i4 h1 h2) (fun b gb e=>by have:=(hb b gb).1;omega),hb⟩,h.box.fr hF (by omega),h.row.fr hF (by omega),ho⟩
theorem LJ.app {W X X':World} {R B0 B6 B7:Nat} {r:Pl.Ru} {v1 v3 bv u u':Value} {ws nv:List ByteArray} (h:LJ W X R B0 B6 B7 r v1 v3 bv u ws) (hg:X.grownBy X' u.ownBlock) (Fa:TxR X' (B7+1) u' nv):LJ W X' R B0 B6 B7 r v1 v3 bv u' nv:=by
 have ho:=h.ord;have hn:∀ q,q<B7+1→u.ownBlock≠some q:=fun q hq e=>by have:=(bI h.row e).1;omega
 obtain⟨F,hr,hb⟩:=h.rep;exact⟨h.fr.grown hg (fun b e=>by have:=(bI h.row e).1;omega) ho.1,h.res.grow hg (hn _ (by omega)),h.rul.grow hg (hn _ (by omega)),⟨F,hr.grown hg (fun b gb=>hn b (by have:=(hb b gb).2;omega)),hb⟩,h.box.grow hg (hn _ (by omega)),Fa,ho⟩
theorem LJ.sto {W X:World} {R B0 B6 B7:Nat} {r:Pl.Ru} {v1 v3 bv u:Value} {ws:List ByteArray} (h:LJ W X R B0 B6 B7 r v1 v3 bv u ws):LJ W (X.setCell ⟨B7,1,none⟩ u) R B0 B6 B7 r v1 v3 u u ws:=by
 have ho:=h.ord;have hm:Marks (fun b=>b=B7) X (X.setCell ⟨B7,1,none⟩ u):=Marks.sc (S:=fun b=>b=B7) X rfl 1 u;obtain⟨F,hr,hb⟩:=h.rep;exact⟨h.fr.mks hm (fun b e=>by omega) ho.1,h.res.other (by omega) _ _,h.rul.other (by omega) _ _,⟨F,hr.bo hm (fun b gb e=>by have:=(hb b gb).2;omega),hb⟩,h.box.set 1 u (by simp),dE h.row hm (fun b gb e=>by omega),ho⟩
theorem rL {W:World} {F:List Nat} {ag:List Int} {a:Option Addr} {c:Nat} (h:Rep W false [.row 3 [.i]] F [.row ag.length (ag.map .i)] [.slice a ag.length c]) {k:Nat} (hk:k<ag.length):∃ p o,a=some ⟨p,o,none⟩∧p∈F∧p<W.heap.size∧W.cell? ⟨p,o+k,none⟩=some (.int .i64 (ag.getD k 0)):=by
 rcases h.slice with⟨_,e0,_⟩|⟨p,o,c',u,m,G,hv,hF,_,ho,_,_,vs,hr,hR⟩
 ·omega
 ·injection hv with g1 _ _
  obtain⟨ve,hE,hg⟩:=hR.raw.el hk hr;have Rt:el 1 k (ag.map Dt.i)=[.i (ag.getD k 0)]:=by exact gO 0 Dt.i ag k hk
  have MQ:Raw W [.i] [.i (ag.getD k 0)] ve:=by rw[← Rt];exact hE
  obtain rfl:=Cv MQ;exact⟨p,o,g1,by rw[hF];exact List.mem_cons_self ..,ho.lt,by have:=aE hg 0 _ rfl;simpa using this⟩
def bnd (p k:Nat):Nat:=p+10+12000*k
theorem vH {p k q pw:Nat} (h:pw≤bnd p k) (h':q≤pw+11000):q≤bnd p (k+1):=by
 have e:bnd p (k+1)=bnd p k+12000:=by simp only[bnd,Nat.mul_add,Nat.mul_one,Nat.add_assoc]
 rw[e];generalize bnd p k=b at h;omega
theorem Ec {p k q:Nat} (h:q≤bnd p k) (h3:k≤3):q≤p+50000:=by unfold bnd at h;omega
theorem mY {W:World} {tt:Bool} {G:List Nat}:∀ {ws:List ByteArray} {vs:List Value},Rep W tt (bf ws.length [.s]) G (txD ws) vs→vs=txV ws
 |[],vs,h=>by
  have h':Rep W tt [] G [] vs:=h;exact h'.c_n.1
 |x::ws,vs,h=>by
  rw[List.length_cons,bW]at h;have h':Rep W tt (.s::bf ws.length [.s]) G (.s x::txD ws) vs:=h;obtain⟨y,rfl,h2⟩:=h'.c_s;rw[mY h2];rfl
theorem TxR.lower {W:World} {lo lo':Nat} {v:Value} {l:List ByteArray} (h:TxR W lo v l) (hl:lo'≤lo):TxR W lo' v l:=by
 refine⟨h.1,h.2.imp id ?_⟩;rintro⟨g,cap,cur,h1,h2,h3,h4⟩;exact⟨g,cap,cur,h1,Nat.le_trans hl h2,h3,h4⟩
theorem xY {w:World} {ops:Array Oper} {rest:List Oper} {o:Oper} {a:Act} {Q:Exit→Act→World→Prop} (nN:o.guard=none) (s x:Operand)
  (ho:o.op=.call {callee:=.builtin .append,args:=#[s,x],argTypes:=#[44,44]}) (lo:Nat) (v:Value) (l:List ByteArray) (hs:a.eval s=v) (ff:TxR w lo v l)
  (B off m c:Nat) (news:List ByteArray) (hx:a.eval x=.slice (some ⟨B,off,none⟩) m c) (hl:news.length=m) (hnews:∀ j u,(txV news)[j]? =some u→w.cell? ((⟨B,off,none⟩:Addr).add j)=some u)
  (hm:0<m) (h63:l.length+m≤1073741824) (bR:lo≤w.heap.size)
  (h:∀ g cap w',TxR w' lo (.slice (some ⟨g,0,none⟩) (l.length+m) cap) (l++news)→w.grownBy w' v.ownBlock→wpList Tryz.prog ops Q rest (a.put o.dst (.slice (some ⟨g,0,none⟩) (l.length+m) cap)) w'):wpList Tryz.prog ops Q (o::rest) a w:=by
 obtain⟨i0,hi,ga,dJ,gH⟩:=ji Tryz.bA;refine wpList_append_lies w nN s x 44 ho lo 9 i0 _ 1 16 Tryz.gS hi ga dJ gH rfl (by omega) v l.length (txV l) hs ff ⟨B,off,none⟩ m c (txV news) hx (by rw[sZ,hl,Nat.mul_one]) hnews
  (fun u hu=>by obtain⟨b,_,rfl⟩:=List.mem_map.1 hu;rfl) hm (by unfold maxLen;omega) (by omega) bR _ rfl fun g cap w' q1 q2 _ _=>h g cap w' ?_ q2
 unfold TxR;rw[sy,List.length_append,hl];exact q1
theorem Pl.fX (kind:ByteArray):(Pl.ai kind).length≤100:=by
 unfold Pl.ai;split
 ·decide
 ·split
  ·decide
  ·split<;>decide
theorem Pl.ur (kind:ByteArray):∀ r∈Pl.ai kind,r.args.length≤3:=by
 unfold Pl.ai;split
 ·decide
 ·split
  ·decide
  ·split
   ·decide
   ·intro r hr;cases hr
theorem Pl.xk (kind:ByteArray):∀ r∈Pl.ai kind,r.dflt.length≤3∧(r.many=false→1≤r.dflt.length)∧∀ x∈r.dflt,x.size≤4000:=by
 unfold Pl.ai;split
 ·decide
 ·split
  ·decide
  ·split
   ·decide
   ·intro r hr;cases hr
theorem tv (r:Pl.Ru):(ruD r).length=4:=rfl
theorem Rep.elF {w:World} {tt:Bool} {n q:Nat} {sh:List Sh} {G:List Nat} {es:List Dt} {vs:List Value} (h:Rep w tt (bf n sh) G es vs) (hq:q<n) {p o:Nat} (hr:w.rangeAt p o vs):∃ ve G',Rep w tt sh G' (Go.Proofs.YtopjjknojnfhmaaGreatDoor.el sh.length q es) ve∧w.rangeAt p (o+q*sh.length) ve∧∀ b∈G',b∈G:=by
 rw[iy hq]at h;obtain⟨F1,F2,d1,d2,c1,c2,rfl,rfl,rfl,h1,h2⟩:=Rep.cut _ h;obtain⟨F3,F4,d3,d4,c3,c4,rfl,rfl,rfl,h3,h4⟩:=Rep.cut _ h2;rw[xA (by rw[h1.raw.typ.len,bj]) h3.raw.typ.len];refine⟨c3,F3,h3, ?_,fun b hb=>by simp[hb]⟩;have:=(dA (dA hr).2).1;rwa [h1.len,bj]at this
theorem rX {W:World} {l:List Pl.Ru} {F:List Nat} {v:Value} (h:Rep W false [.row 96 aF] F [cQ l] [v]) {k:Nat} (hk:k<l.length):∃ p o c a1 c1 a3 n3 c3 F',v=.slice (some ⟨p,o,none⟩) l.length c∧p<W.heap.size∧W.rangeAt p (o+k*4) [.string (l.getD k Pl.bq).key,.slice a1 (l.getD k Pl.bq).args.length c1,.bool (l.getD k Pl.bq).many,.slice a3 n3 c3]∧Rep W false aF F' (ruD (l.getD k Pl.bq)) [.string (l.getD k Pl.bq).key,.slice a1 (l.getD k Pl.bq).args.length c1,.bool (l.getD k Pl.bq).many,.slice a3 n3 c3]∧∀ b∈F',b∈F:=by
 rcases h.slice with⟨_,e0,_⟩|⟨p,o,c,u,m,G,hv,hF,_,ho,_,_,vs,hr,hR⟩
 ·omega
 ·obtain⟨ve,G',hE,hg,hb⟩:=hR.elF hk hr;have e:el aF.length k (l.flatMap ruD)=ruD (l.getD k Pl.bq):=j8 Pl.bq ruD 4 tv l k hk;rw[e]at hE;have MQ:Rep W false aF G' (ruD (l.getD k Pl.bq)) ve:=hE;obtain⟨F1,v1,F3,v3,E8,hc,r1,r3⟩:=eT MQ;subst hc;obtain⟨a1,c1,h1⟩:=r1.raw.bm;obtain⟨a3,c3,h3⟩:=r3.raw.bm;subst h1;subst h3;exact⟨p,o,c,a1,c1,a3,_,c3,G',hv,ho.lt,hg,MQ,fun b gb=>by rw[hF];exact List.mem_cons_of_mem _ (hb b gb)⟩
def VLn (R:Nat) (wv av:Value) (B6 B7 p1 o1 k:Nat) (z:Int):Nat→Value→World→Prop
 |0,u,_=>u=.pointer (some ⟨B7,1,none⟩)
 |1,u,_=>u=wv
 |2,u,_=>u=.pointer (some ⟨R,0,none⟩)
 |3,u,_=>u=.pointer (some ⟨B6,1,none⟩)
 |4,u,_=>u=av
 |5,u,_=>u=.int .i64 (k:Int)
 |6,u,_=>u=.pointer (some ⟨p1,o1+k,none⟩)
 |7,u,_=>u=.int .i64 z
 |8,u,_=>∃ s:ByteArray,u=.string s∧s.size≤4000
 |9,u,W=>∃ (B:Nat) (s:ByteArray),u=.slice (some ⟨B,0,none⟩) 1 1∧R<B∧B<W.heap.size∧W.cell? ⟨B,0,none⟩=some (.string s)∧s.size≤4000
 |_,_,_=>True
theorem vy (R:Nat) (wv av:Value) (B6 B7 p1 o1 k:Nat) (z:Int):∀ j u W W',Fr R W W'→R<W.heap.size→VLn R wv av B6 B7 p1 o1 k z j u W→VLn R wv av B6 B7 p1 o1 k z j u W':=by
 intro j u W W' hb bd h;match j with
 |0=>exact h
 |1=>exact h
 |2=>exact h
 |3=>exact h
 |4=>exact h
 |5=>exact h
 |6=>exact h
 |7=>exact h
 |8=>exact h
 |9=>
  obtain⟨B,s,e,h1,h2,hc,hs⟩:=h;exact⟨B,s,e,h1,zL h2 hb.bel.size,(hb.cell h1 h2).trans hc,hs⟩
 |n+10=>exact trivial
theorem D4 (R:Nat) (v:Value) (len p:Nat) (kind:ByteArray) (W0:World) (h:Rd W0 R v len p) (hp:p≤500000000000) (Ij:1≤(Pl.ai kind).length):
  Calls Tryz.prog 83 #[.pointer (some ⟨R,0,none⟩),.string kind] W0 fun e W'=>(∃ key wv ws,e=.returned (.agg #[.string key,wv])∧TxR W' W0.heap.size wv ws∧ws.length≤3∧(∀ x∈ws,x.size≤4000)∧∃ r'∈Pl.ai kind,r'.key=key)∧Fr R W0 W'∧∃ q,q≤p+200000∧Rd W' R v len q:=by
 have r8:=uh h;clear h;have Ju:=uh (Pl.fX kind);have KV:=uh (Pl.ur kind);have La:=uh (Pl.xk kind);obtain⟨Wa,Oc⟩:∃ Wa,Wa=W0.alloc (.cells #[.string {data:=#[]},.slice none 0 0] 46):=⟨_,rfl⟩
 have g8:Bel W0 Wa:=by rw[Oc];exact ae zR _
 have OZ:Wa.heap.size=W0.heap.size+1:=by rw[Oc];simp
 have fU:Hid (al Wa W0.heap.size 46 [.string {data:=#[]},.slice none 0 0]):=by show al _ _ _ _;rw[Oc];exact al.new _ _ _ _ rfl
 have Mf:=uh (r8.out.later g8);have HC:=uh (dZ kind Wa);have jG:=uh g8;have QC:=uh OZ;clear g8 OZ;go_enter Tryz.func83,Tryz.ntmps83
 go_wp2_with fail
 rw[← Oc];clear Oc;refine HC.out.mono ?_;rintro e W1 ⟨lv,F,rfl,fc,nd,lo,bJ⟩;obtain⟨l,hl⟩:∃ l,l=Pl.ai kind:=⟨_,rfl⟩
 rw[← hl]at fc Ju KV La Ij;obtain⟨va,vc,wD⟩:=fc.raw.bm;subst wD;have BU:=uh hl;clear hl nd HC;have zC:=Ju.out;have iL:=uh (Mf.out.later bJ);have Lw:=uh fc;have lM:=uh lo;have gE:=uh bJ;have ER:=uh (fU.out.later bJ);clear fc lo bJ fU;have HP:=uh (bb R v len p l.length W1 iL.out (by omega) (by omega));go_wp2_with fail
 refine HP.out.mono ?_;rintro e W2 ⟨⟨ri,rfl,OE⟩,fk,eR⟩;obtain⟨i,rfl,hi⟩:=OE.nat;clear OE;have nt:i<l.length:=by have:=hi (by omega);omega
 have gW:=uh eR;have zF:=uh fk;have gf:=uh r8.out.own.lt;have JK:=uh (Lw.out.bo (fk.i4 iL.out eR) (fun b hb e=>by have:=lM.out b hb;have:=QC.out;have:=gf.out;omega));have vY:=uh (ER.out.fr fk gf.out);have OT:Hid (Fr R W0 W2):=((Fr.aG jG.out gf.out).trans (Fr.aG gE.out Mf.out.own.lt)).trans fk;have qa:Hid (W0.heap.size<W2.heap.size):=by have:=jG.out.size;have:=gE.out.size;have:=fk.bel.size;have:=QC.out;show _<_;omega
 clear hi eR fk HP Lw ER iL gE zF Mf jG;obtain⟨pl,ol,cl,a1,c1,a3,n3,c3,F',hv,dr,hg,sj,E8⟩:=rX JK.out nt;injection hv with e1 _ e3
 subst e1;subst e3;have y0:W2.cell? ⟨pl,ol+i*4,none⟩=some (.string (l.getD i Pl.bq).key):=aE hg 0 _ rfl;have y1:=aE hg 1 _ rfl;have y2:=aE hg 2 _ rfl;have y3:=aE hg 3 _ rfl;have Mi:=uh sj;have Sp:Hid (∀ b∈F',R<b∧b<W2.heap.size):=fun b hb=>⟨by have:=lM.out b (E8 b hb);have:=QC.out;have:=gf.out;omega,sj.lt b hb⟩
 have Bo:Hid ((l.getD i Pl.bq).args.length≤3∧(l.getD i Pl.bq).dflt.length≤3∧((l.getD i Pl.bq).many=false→1≤(l.getD i Pl.bq).dflt.length)∧∀ x∈(l.getD i Pl.bq).dflt,x.size≤4000):=by
  have e:l.getD i Pl.bq=l[i]:=by simp[nt]
  rw[e];exact⟨KV.out _ (List.getElem_mem nt),La.out _ (List.getElem_mem nt)⟩
 obtain⟨r,hr⟩:∃ r,r=l.getD i Pl.bq:=⟨_,rfl⟩
 have Mn:Hid (∃ r'∈Pl.ai kind,r'.key=r.key):=by
  show ∃ r'∈Pl.ai kind,r'.key=r.key;rw[← BU.out];exact⟨l[i],List.getElem_mem nt,by rw[hr];simp[nt]⟩
 rw[← hr]at y0 y1 y2 Mi Bo;have gF:(0:Int)≤(i:Int):=by omega
 have gG:(i:Int)<(l.length:Int):=by omega
 clear hr hg sj E8 JK lM KV La;obtain⟨W4,qZ⟩:∃ W4,W4=(W2.alloc (.cells #[.string r.key,.slice a1 r.args.length c1,.bool r.many,.slice a3 n3 c3] 96)).alloc (.cells #[.string r.key,.slice none 0 0] 46):=⟨_,rfl⟩
 have Fo:Bel W2 W4:=by rw[qZ];exact ae (ae zR _) _
 have MZ:Hid (LJ W0 W4 R W0.heap.size W2.heap.size (W2.heap.size+1) r (.slice a1 r.args.length c1) (.slice a3 n3 c3) (.slice none 0 0) (.slice none 0 0) []):=by
  refine⟨OT.out.trans (Fr.aG Fo gW.out.own.lt),vY.out.later Fo, ?_,⟨F',Mi.out.later Fo,fun b hb=>⟨(Sp.out b hb).1,by have:=(Sp.out b hb).2;omega⟩⟩, ?_,TxR.nil _ _,gf.out,zE,qa.out,by omega⟩
  ·rw[qZ];exact(al.new W2 [.string r.key,.slice a1 r.args.length c1,.bool r.many,.slice a3 n3 c3] 96 _ rfl).later (ae zR _)
  ·rw[qZ];exact al.new _ [.string r.key,.slice none 0 0] 46 _ (by simp)
 have nz:=uh (gW.out.later Fo);have gH:(W2.alloc (.cells #[.string r.key,.slice a1 r.args.length c1,.bool r.many,.slice a3 n3 c3] 96)).heap.size=W2.heap.size+1:=by simp
 go_upto_region 4 with fail
 rw[← qZ];obtain⟨B6,M8⟩:∃ B6,B6=W2.heap.size:=⟨_,rfl⟩
 obtain⟨B7,Q9⟩:∃ B7,B7=W2.heap.size+1:=⟨_,rfl⟩
 obtain⟨B0,mB⟩:∃ B0,B0=W0.heap.size:=⟨_,rfl⟩
 rw[← Q9,← M8,← mB];rw[← Q9,← M8,← mB]at MZ;clear qZ Fo gH M8 Q9 mB y0 y1 y2 y3 gW Mi Sp OT vY qa gf QC dr;have oJ:=MZ.out.rul.get 2 _ rfl;have fK:=MZ.out.rul.own.lt;cases qk:r.many
 rotate_left
 ·rw[qk]at oJ;clear fK;go_upto_region 7 with fail
  clear oJ qk;go_wp2;go_loopw [8] (fun i wr=>∃ (k:Nat) (ws:List ByteArray) (q:Nat),k≤r.args.length∧i=.int .i64 k∧ws.length=k∧q≤bnd p k∧Hid (∃ u,LJ W0 wr R B0 B6 B7 r (.slice a1 r.args.length c1) (.slice a3 n3 c3) u u ws∧Rd wr R v len q∧∀ x∈ws,x.size≤4000)) (fun i _=>r.args.length - (intOf i).toNat)
  case atStart=>exact⟨0,[],p+1,zN,rfl,rfl,by unfold bnd;omega,⟨_,MZ.out,nz.out,fun x hx=>by cases hx⟩⟩
  case round=>
   obtain⟨k,ws,pw,hk,rfl,qe,FE,HX⟩:=hrel;obtain⟨u,hJ,On,Pq⟩:=HX.out;have HJ:=uh hJ;have g9:=uh On;have Jj:=uh Pq;have NP:=uh qe;have tB:=uh FE;have ha3:=Bo.out.1;have Hk:=Ec tB.out (show k≤3 by omega);clear FE;obtain⟨wa,wc,hu⟩:=hJ.row.shape;subst hu;clear hJ On Pq HX;have yb0:=HJ.out.rul.get 1 _ rfl;have ybl:=HJ.out.rul.own.lt;by_cases bd:k<r.args.length
   ·obtain⟨Fr',sj,L6⟩:=HJ.out.rep;obtain⟨F1,v1,F3,v3,E8,hc,r1,r3⟩:=eT sj;injection hc with _ hc
    injection hc with mJ _
    subst mJ;obtain⟨p1,o1,e1,B2,sq,gV⟩:=rL r1 bd;subst e1;obtain⟨z,hz⟩:∃ z,z=r.args.getD k 0:=⟨_,rfl⟩
    have kY:Hid (R<p1∧p1<wr.heap.size∧wr.cell? ⟨p1,o1+k,none⟩=some (.int .i64 z)):=⟨(L6 p1 (by rw[E8];simp[B2])).1,sq,by rw[hz];exact gV⟩
    have ue:Hid (ws.length≤3):=by show _≤_;omega
    have ec:(0:Int)≤(k:Int):=by omega
    have dP:(k:Int)<(r.args.length:Int):=by omega
    clear sj L6 r1 r3 E8 B2 gV hz sq;go_upto_region 10 with fail
    clear yb0 ybl;refine RY.nf R v len pw g9.out (VLn R (.slice wa ws.length wc) (.slice (some ⟨p1,o1,none⟩) r.args.length c1) B6 B7 p1 o1 k z) (vy R _ _ _ _ _ _ _ _) (fun u W'=>∃ nv,LJ W0 W' R B0 B6 B7 r (.slice (some ⟨p1,o1,none⟩) r.args.length c1) (.slice a3 n3 c3) (.slice wa ws.length wc) u nv∧nv.length=ws.length+1∧(∀ x∈nv,x.size≤4000)∧∃ q,q≤pw+11000∧Rd W' R v len q) (fun u W'=>∃ nv,LJ W0 W' R B0 B6 B7 r (.slice (some ⟨p1,o1,none⟩) r.args.length c1) (.slice a3 n3 c3) u u nv∧nv.length=ws.length+1∧(∀ x∈nv,x.size≤4000)∧∃ q,q≤pw+11000∧Rd W' R v len q) (.pointer (some ⟨B7,1,none⟩)) 10 12 53 54 (by kernel_rfl) (by kernel_rfl) (by kernel_rfl) (by kernel_rfl) (by kernel_rfl) rfl (by kernel_rfl) _ _ _ rfl rfl rfl rfl rfl rfl (by kernel_rfl) (by kernel_rfl) ?_ ?_ ?_ ?_ ?_
    ·intro i' o' ho gG a X pp hX hR wT hk hd;have hJ:=HJ.out.step hX g9.out hR;have yb:=hJ.box.get 1 _ rfl;have yr:=hJ.rul.get 1 _ rfl;have yc:X.cell? ⟨p1,o1+k,none⟩=some (.int .i64 z):=(hX.cell kY.out.1 kY.out.2.1).trans kY.out.2.2;match i',ho with
     |0,ho=>
      injection ho with ho;subst ho
      have e7:a.tmps[7]?.getD undef=.pointer (some ⟨B7,0,none⟩):=(RY.af a 7).trans ((hk 7 (by kernel_rfl)).trans rfl);exact Or.inl ⟨.pointer (some ⟨B7,1,none⟩),X,by simp[execOp,go_sem,e7],zR,rfl⟩
     |1,ho=>
      injection ho with ho;subst ho
      have e43:a.tmps[43]?.getD undef=_:=(RY.af a 43).trans (hd 0 _ 43 rfl rfl ⟨⟨0,.data⟩,by simp,rfl,rfl⟩ (by decide));exact Or.inl ⟨.slice wa ws.length wc,X,by simp[execOp,go_sem,e43,yb],zR,rfl⟩
     |2,ho=>
      injection ho with ho;subst ho
      have e0:a.tmps[0]?.getD undef=.pointer (some ⟨R,0,none⟩):=(RY.af a 0).trans ((hk 0 (by kernel_rfl)).trans rfl);exact Or.inl ⟨.pointer (some ⟨R,0,none⟩),X,by simp[execOp,go_sem,e0],zR,rfl⟩
     |3,ho=>
      injection ho with ho;subst ho
      have e6:a.tmps[6]?.getD undef=.pointer (some ⟨B6,0,none⟩):=(RY.af a 6).trans ((hk 6 (by kernel_rfl)).trans rfl);exact Or.inl ⟨.pointer (some ⟨B6,1,none⟩),X,by simp[execOp,go_sem,e6],zR,rfl⟩
     |4,ho=>
      injection ho with ho;subst ho
      have e46:a.tmps[46]?.getD undef=_:=(RY.af a 46).trans (hd 3 _ 46 rfl rfl ⟨⟨3,.data⟩,by simp,rfl,rfl⟩ (by decide));exact Or.inl ⟨.slice (some ⟨p1,o1,none⟩) r.args.length c1,X,by simp[execOp,go_sem,e46,yr],zR,rfl⟩
     |5,ho=>
      injection ho with ho;subst ho
      have e8:a.tmps[8]?.getD undef=.int .i64 (k:Int):=(RY.af a 8).trans ((hk 8 (by kernel_rfl)).trans rfl);exact Or.inl ⟨.int .i64 (k:Int),X,by simp[execOp,go_sem,e8],zR,rfl⟩
     |6,ho=>
      injection ho with ho;subst ho
      have e47:a.tmps[47]?.getD undef=_:=(RY.af a 47).trans (hd 4 _ 47 rfl rfl ⟨⟨4,.data⟩,by simp,rfl,rfl⟩ (by decide));have e48:a.tmps[48]?.getD undef=_:=(RY.af a 48).trans (hd 5 _ 48 rfl rfl ⟨⟨5,.data⟩,by simp,rfl,rfl⟩ (by decide));exact Or.inl ⟨.pointer (some ⟨p1,o1+k,none⟩),X,by simp[execOp,go_sem,e47,e48,ec,dP],zR,rfl⟩
     |7,ho=>
      injection ho with ho;subst ho
      have e49:a.tmps[49]?.getD undef=_:=(RY.af a 49).trans (hd 6 _ 49 rfl rfl ⟨⟨6,.data⟩,by simp,rfl,rfl⟩ (by decide));exact Or.inl ⟨.int .i64 z,X,by simp[execOp,go_sem,e49,yc],zR,rfl⟩
     |8,ho=>
      injection ho with ho;subst ho
      have e45:a.tmps[45]?.getD undef=_:=(RY.af a 45).trans (hd 2 _ 45 rfl rfl ⟨⟨2,.data⟩,by simp,rfl,rfl⟩ (by decide));have e50:a.tmps[50]?.getD undef=_:=(RY.af a 50).trans (hd 7 _ 50 rfl rfl ⟨⟨7,.data⟩,by simp,rfl,rfl⟩ (by decide));refine Or.inr ⟨105,#[.pointer (some ⟨R,0,none⟩),.int .i64 z],by simp[go_sem,e45,e50],(pE R v len pp z X hR (by omega)).mono ?_⟩;rintro e W' ⟨⟨s,rfl,hs⟩,hF,q,hq,Hn⟩;exact⟨_,rfl,hF,⟨q,hq,Hn⟩,s,rfl,hs⟩
     |9,ho=>
      injection ho with ho;subst ho
      obtain⟨s,e51,hs⟩:=hd 8 _ 51 rfl rfl ⟨⟨8,.data⟩,by simp,rfl,rfl⟩ (by decide);have f51:=(RY.af a 51).trans e51;exact Or.inl ⟨.slice (some ⟨X.heap.size,0,none⟩) 1 1,X.alloc (.cells #[.string s] 9),by simp[execOp,go_sem,f51],ae zR _,X.heap.size,s,rfl,hR.own.lt,by simp,(World.cell?_alloc_at _ _ _ _ rfl).trans rfl,hs⟩
     |n+10,ho=>omega
    ·intro a X pp hX hR wT hk hd;have hJ:=HJ.out.step hX g9.out hR;have e44:=hd 1 _ 44 rfl rfl ⟨⟨1,.data⟩,by simp,rfl,rfl⟩ (by decide);obtain⟨B,s,e52,h1,h2,hc,hs⟩:=hd 9 _ 52 rfl rfl ⟨⟨9,.data⟩,by simp,rfl,rfl⟩ (by decide);obtain⟨g,cap,X',dM,ep,fw⟩:=xP hJ.row 44 B 1 1 [s] rfl (fun j y hy=>by match j,hy with|0,hy=>(injection hy with hy;subst hy;exact hc)) (by decide) (by have:=ue.out;omega) (by have:=hJ.box.own.lt;omega);refine⟨_,X',aQ (.tmp 44) (.tmp 52) 44 rfl e44 e52 dM,ws++[s],hJ.app fw ep,by simp, ?_,pp,by omega,hR.grown fw (fun b hb=>by have:=(bI hJ.row hb).1;have:=hJ.ord;omega)⟩;intro x hx;rcases List.mem_append.1 hx with q|q
     ·exact Jj.out x q
     ·simp at q;rw[q];exact hs
    ·intro a X hk;have e7:a.tmps[7]?.getD undef=.pointer (some ⟨B7,0,none⟩):=(RY.af a 7).trans ((hk 7 (by kernel_rfl)).trans rfl);simp[execOp,go_sem,e7]
    ·intro a X hK hp;obtain⟨nv,hJ,hl,hs,q,hq,hR⟩:=hK;obtain⟨ua,uc,hu⟩:=hJ.row.shape;have t53:=(RY.af a 53).trans hu;have t54:=(RY.af a 54).trans hp;have zb:=hJ.box.get 1 _ rfl;have zf:=hJ.box.own.frozen 1;refine⟨X.setCell ⟨B7,1,none⟩ (a.eval (.tmp 53)),by rw[hu];simp[execOp,go_sem,t53,t54,zb,zf],nv,hJ.sto,hl,hs,q,hq,hR.mks (Marks.sc (S:=fun b=>b=B7) X rfl 1 _) (fun b e=>by have:=hJ.ord;omega)⟩
    ·rintro vs X hK e54;simp only[RY.aC,Act.put,List.setIfInBounds_toArray,List.set_cons_zero,List.set_cons_succ];generalize vs 43=s43;generalize vs 44=s44;generalize vs 45=s45;generalize vs 46=s46;generalize vs 47=s47;generalize vs 48=s48;generalize vs 49=s49;generalize vs 50=yp;generalize vs 51=s51;generalize vs 52=s52;generalize vs 53=s53 at hK;rw[e54];obtain⟨nv,hJ,hl,hs,q,hq,hR⟩:=hK;have HN:=uh (And.intro hJ (And.intro hl (And.intro hs (And.intro hq hR))));clear hJ hl hs hq hR e54;go_wp2;go_roundw
     case rel=>exact⟨k+1,nv,q,by omega,by go_num,by have:=HN.out.2.1;have:=NP.out;omega,vH tB.out HN.out.2.2.2.1,⟨_,HN.out.1,HN.out.2.2.2.2,HN.out.2.2.1⟩⟩
     case measure=>simp[intOf];omega
   obtain rfl:k=r.args.length:=by omega
   obtain⟨q,hq⟩:∃ q,q=pw:=⟨_,rfl⟩
   rw[← hq]at g9 Hk;clear hq;have mN:=HJ.out.box.at_;have gD:=HJ.out.box.own.lt;have oG:=HJ.out.res.own.lt;have cp:wr.there B0 0 (#[.string r.key,.slice wa ws.length wc]:Array Value).size:=aR HJ.out.res.own _ _ (by simp);obtain⟨we,bM⟩:∃ we,we=wr.setCells B0 0 [.string r.key,.slice wa ws.length wc]:=⟨_,rfl⟩
   have fT:we.rangeAt B0 0 [.string r.key,.slice wa ws.length wc]:=by rw[bM];exact World.rangeAt_setCells_same _ _ _ _ cp
   have fz:Marks (fun b=>b=B0) wr we:=by rw[bM];exact aM (S:=fun b=>b=B0) rfl _ _ _
   have Jn:=HJ.out.ord;have cj:Hid (Fr R W0 we∧Rd we R v len q∧TxR we W0.heap.size (.slice wa ws.length wc) ws):=⟨HJ.out.fr.mks fz (fun b e=>by omega) Jn.1,g9.out.mks fz (fun b e=>by omega),TxR.lower (lo:=B7+1) (dE HJ.out.row fz (fun b hb e=>by omega)) (by omega)⟩
   clear fz Jn;go_wp2_with (first|(refine wpList_load_mid rfl 46 _ rfl B7 0 rfl [.string r.key,.slice wa ws.length wc] _ mN Tryz.underlying46 rfl (by kernel_rfl) ?_)|(refine wpList_store_mid rfl 46 _ _ rfl B0 0 #[.string r.key,.slice wa ws.length wc] rfl rfl cp (by kernel_rfl) (by simp[Value.oneCell']) ?_))
   first|rw[← bM]|(simp only[List.toList_toArray];rw[← bM])
   try simp only[Act.put]
   refine bodyPost_ret (v:=.agg #[.string r.key,.slice wa ws.length wc]) (by simp[results,Tryz.results83,asAddr,run_loadVar_mid (P:=Tryz.prog) _ _ _ 46 [.string r.key,.slice wa ws.length wc] _ fT Tryz.underlying46 rfl (by kernel_rfl)]) rfl ?_;exact⟨⟨r.key,_,ws,rfl,cj.out.2.2,by omega,Jj.out,Mn.out⟩,cj.out.1,q,by omega,cj.out.2.1⟩
 rw[qk]at oJ;have HP:=uh (bb R v len (p+1) 4 W4 nz.out (by omega) (by omega));go_wp2_with fail
 refine HP.out.mono ?_;rintro e W5 ⟨⟨rm,rfl,iJ⟩,FG,H7⟩;obtain⟨m,rfl,hm⟩:=iJ.nat;have Im:=uh (MZ.out.step FG nz.out H7);have FV:=uh H7;clear iJ hm FG H7 HP oJ fK MZ nz;by_cases m0:m=0
 rotate_left
 ·have d0:((m:Int)==0)=false:=by simp;omega
  go_upto_region 7 with fail
  clear d0 qk m0;go_wp2;go_loopw [8] (fun i wr=>∃ (k:Nat) (ws:List ByteArray) (q:Nat),k≤r.args.length∧i=.int .i64 k∧ws.length=k∧q≤bnd p k∧Hid (∃ u,LJ W0 wr R B0 B6 B7 r (.slice a1 r.args.length c1) (.slice a3 n3 c3) u u ws∧Rd wr R v len q∧∀ x∈ws,x.size≤4000)) (fun i _=>r.args.length - (intOf i).toNat)
  case atStart=>exact⟨0,[],p+1+1,zN,rfl,rfl,by unfold bnd;omega,⟨_,Im.out,FV.out,fun x hx=>by cases hx⟩⟩
  case round=>
   obtain⟨k,ws,pw,hk,rfl,qe,FE,HX⟩:=hrel;obtain⟨u,hJ,On,Pq⟩:=HX.out;have HJ:=uh hJ;have g9:=uh On;have Jj:=uh Pq;have NP:=uh qe;have tB:=uh FE;have ha3:=Bo.out.1;have Hk:=Ec tB.out (show k≤3 by omega);clear FE;obtain⟨wa,wc,hu⟩:=hJ.row.shape;subst hu;clear hJ On Pq HX;have yb0:=HJ.out.rul.get 1 _ rfl;have ybl:=HJ.out.rul.own.lt;by_cases bd:k<r.args.length
   ·obtain⟨Fr',sj,L6⟩:=HJ.out.rep;obtain⟨F1,v1,F3,v3,E8,hc,r1,r3⟩:=eT sj;injection hc with _ hc
    injection hc with mJ _
    subst mJ;obtain⟨p1,o1,e1,B2,sq,gV⟩:=rL r1 bd;subst e1;obtain⟨z,hz⟩:∃ z,z=r.args.getD k 0:=⟨_,rfl⟩
    have kY:Hid (R<p1∧p1<wr.heap.size∧wr.cell? ⟨p1,o1+k,none⟩=some (.int .i64 z)):=⟨(L6 p1 (by rw[E8];simp[B2])).1,sq,by rw[hz];exact gV⟩
    have ue:Hid (ws.length≤3):=by show _≤_;omega
    have ec:(0:Int)≤(k:Int):=by omega
    have dP:(k:Int)<(r.args.length:Int):=by omega
    clear sj L6 r1 r3 E8 B2 gV hz sq;go_upto_region 10 with fail
    clear yb0 ybl;refine RY.nf R v len pw g9.out (VLn R (.slice wa ws.length wc) (.slice (some ⟨p1,o1,none⟩) r.args.length c1) B6 B7 p1 o1 k z) (vy R _ _ _ _ _ _ _ _) (fun u W'=>∃ nv,LJ W0 W' R B0 B6 B7 r (.slice (some ⟨p1,o1,none⟩) r.args.length c1) (.slice a3 n3 c3) (.slice wa ws.length wc) u nv∧nv.length=ws.length+1∧(∀ x∈nv,x.size≤4000)∧∃ q,q≤pw+11000∧Rd W' R v len q) (fun u W'=>∃ nv,LJ W0 W' R B0 B6 B7 r (.slice (some ⟨p1,o1,none⟩) r.args.length c1) (.slice a3 n3 c3) u u nv∧nv.length=ws.length+1∧(∀ x∈nv,x.size≤4000)∧∃ q,q≤pw+11000∧Rd W' R v len q) (.pointer (some ⟨B7,1,none⟩)) 10 12 53 54 (by kernel_rfl) (by kernel_rfl) (by kernel_rfl) (by kernel_rfl) (by kernel_rfl) rfl (by kernel_rfl) _ _ _ rfl rfl rfl rfl rfl rfl (by kernel_rfl) (by kernel_rfl) ?_ ?_ ?_ ?_ ?_
    ·intro i' o' ho gG a X pp hX hR wT hk hd;have hJ:=HJ.out.step hX g9.out hR;have yb:=hJ.box.get 1 _ rfl;have yr:=hJ.rul.get 1 _ rfl;have yc:X.cell? ⟨p1,o1+k,none⟩=some (.int .i64 z):=(hX.cell kY.out.1 kY.out.2.1).trans kY.out.2.2;match i',ho with
     |0,ho=>
      injection ho with ho;subst ho
      have e7:a.tmps[7]?.getD undef=.pointer (some ⟨B7,0,none⟩):=(RY.af a 7).trans ((hk 7 (by kernel_rfl)).trans rfl);exact Or.inl ⟨.pointer (some ⟨B7,1,none⟩),X,by simp[execOp,go_sem,e7],zR,rfl⟩
     |1,ho=>
      injection ho with ho;subst ho
      have e43:a.tmps[43]?.getD undef=_:=(RY.af a 43).trans (hd 0 _ 43 rfl rfl ⟨⟨0,.data⟩,by simp,rfl,rfl⟩ (by decide));exact Or.inl ⟨.slice wa ws.length wc,X,by simp[execOp,go_sem,e43,yb],zR,rfl⟩
     |2,ho=>
      injection ho with ho;subst ho
      have e0:a.tmps[0]?.getD undef=.pointer (some ⟨R,0,none⟩):=(RY.af a 0).trans ((hk 0 (by kernel_rfl)).trans rfl);exact Or.inl ⟨.pointer (some ⟨R,0,none⟩),X,by simp[execOp,go_sem,e0],zR,rfl⟩
     |3,ho=>
      injection ho with ho;subst ho
      have e6:a.tmps[6]?.getD undef=.pointer (some ⟨B6,0,none⟩):=(RY.af a 6).trans ((hk 6 (by kernel_rfl)).trans rfl);exact Or.inl ⟨.pointer (some ⟨B6,1,none⟩),X,by simp[execOp,go_sem,e6],zR,rfl⟩
     |4,ho=>
      injection ho with ho;subst ho
      have e46:a.tmps[46]?.getD undef=_:=(RY.af a 46).trans (hd 3 _ 46 rfl rfl ⟨⟨3,.data⟩,by simp,rfl,rfl⟩ (by decide));exact Or.inl ⟨.slice (some ⟨p1,o1,none⟩) r.args.length c1,X,by simp[execOp,go_sem,e46,yr],zR,rfl⟩
     |5,ho=>
      injection ho with ho;subst ho
      have e8:a.tmps[8]?.getD undef=.int .i64 (k:Int):=(RY.af a 8).trans ((hk 8 (by kernel_rfl)).trans rfl);exact Or.inl ⟨.int .i64 (k:Int),X,by simp[execOp,go_sem,e8],zR,rfl⟩
     |6,ho=>
      injection ho with ho;subst ho
      have e47:a.tmps[47]?.getD undef=_:=(RY.af a 47).trans (hd 4 _ 47 rfl rfl ⟨⟨4,.data⟩,by simp,rfl,rfl⟩ (by decide));have e48:a.tmps[48]?.getD undef=_:=(RY.af a 48).trans (hd 5 _ 48 rfl rfl ⟨⟨5,.data⟩,by simp,rfl,rfl⟩ (by decide));exact Or.inl ⟨.pointer (some ⟨p1,o1+k,none⟩),X,by simp[execOp,go_sem,e47,e48,ec,dP],zR,rfl⟩
     |7,ho=>
      injection ho with ho;subst ho
      have e49:a.tmps[49]?.getD undef=_:=(RY.af a 49).trans (hd 6 _ 49 rfl rfl ⟨⟨6,.data⟩,by simp,rfl,rfl⟩ (by decide));exact Or.inl ⟨.int .i64 z,X,by simp[execOp,go_sem,e49,yc],zR,rfl⟩
     |8,ho=>
      injection ho with ho;subst ho
      have e45:a.tmps[45]?.getD undef=_:=(RY.af a 45).trans (hd 2 _ 45 rfl rfl ⟨⟨2,.data⟩,by simp,rfl,rfl⟩ (by decide));have e50:a.tmps[50]?.getD undef=_:=(RY.af a 50).trans (hd 7 _ 50 rfl rfl ⟨⟨7,.data⟩,by simp,rfl,rfl⟩ (by decide));refine Or.inr ⟨105,#[.pointer (some ⟨R,0,none⟩),.int .i64 z],by simp[go_sem,e45,e50],(pE R v len pp z X hR (by omega)).mono ?_⟩;rintro e W' ⟨⟨s,rfl,hs⟩,hF,q,hq,Hn⟩;exact⟨_,rfl,hF,⟨q,hq,Hn⟩,s,rfl,hs⟩
     |9,ho=>
      injection ho with ho;subst ho
      obtain⟨s,e51,hs⟩:=hd 8 _ 51 rfl rfl ⟨⟨8,.data⟩,by simp,rfl,rfl⟩ (by decide);have f51:=(RY.af a 51).trans e51;exact Or.inl ⟨.slice (some ⟨X.heap.size,0,none⟩) 1 1,X.alloc (.cells #[.string s] 9),by simp[execOp,go_sem,f51],ae zR _,X.heap.size,s,rfl,hR.own.lt,by simp,(World.cell?_alloc_at _ _ _ _ rfl).trans rfl,hs⟩
     |n+10,ho=>omega
    ·intro a X pp hX hR wT hk hd;have hJ:=HJ.out.step hX g9.out hR;have e44:=hd 1 _ 44 rfl rfl ⟨⟨1,.data⟩,by simp,rfl,rfl⟩ (by decide);obtain⟨B,s,e52,h1,h2,hc,hs⟩:=hd 9 _ 52 rfl rfl ⟨⟨9,.data⟩,by simp,rfl,rfl⟩ (by decide);obtain⟨g,cap,X',dM,ep,fw⟩:=xP hJ.row 44 B 1 1 [s] rfl (fun j y hy=>by match j,hy with|0,hy=>(injection hy with hy;subst hy;exact hc)) (by decide) (by have:=ue.out;omega) (by have:=hJ.box.own.lt;omega);refine⟨_,X',aQ (.tmp 44) (.tmp 52) 44 rfl e44 e52 dM,ws++[s],hJ.app fw ep,by simp, ?_,pp,by omega,hR.grown fw (fun b hb=>by have:=(bI hJ.row hb).1;have:=hJ.ord;omega)⟩;intro x hx;rcases List.mem_append.1 hx with q|q
     ·exact Jj.out x q
     ·simp at q;rw[q];exact hs
    ·intro a X hk;have e7:a.tmps[7]?.getD undef=.pointer (some ⟨B7,0,none⟩):=(RY.af a 7).trans ((hk 7 (by kernel_rfl)).trans rfl);simp[execOp,go_sem,e7]
    ·intro a X hK hp;obtain⟨nv,hJ,hl,hs,q,hq,hR⟩:=hK;obtain⟨ua,uc,hu⟩:=hJ.row.shape;have t53:=(RY.af a 53).trans hu;have t54:=(RY.af a 54).trans hp;have zb:=hJ.box.get 1 _ rfl;have zf:=hJ.box.own.frozen 1;refine⟨X.setCell ⟨B7,1,none⟩ (a.eval (.tmp 53)),by rw[hu];simp[execOp,go_sem,t53,t54,zb,zf],nv,hJ.sto,hl,hs,q,hq,hR.mks (Marks.sc (S:=fun b=>b=B7) X rfl 1 _) (fun b e=>by have:=hJ.ord;omega)⟩
    ·rintro vs X hK e54;simp only[RY.aC,Act.put,List.setIfInBounds_toArray,List.set_cons_zero,List.set_cons_succ];generalize vs 43=s43;generalize vs 44=s44;generalize vs 45=s45;generalize vs 46=s46;generalize vs 47=s47;generalize vs 48=s48;generalize vs 49=s49;generalize vs 50=yp;generalize vs 51=s51;generalize vs 52=s52;generalize vs 53=s53 at hK;rw[e54];obtain⟨nv,hJ,hl,hs,q,hq,hR⟩:=hK;have HN:=uh (And.intro hJ (And.intro hl (And.intro hs (And.intro hq hR))));clear hJ hl hs hq hR e54;go_wp2;go_roundw
     case rel=>exact⟨k+1,nv,q,by omega,by go_num,by have:=HN.out.2.1;have:=NP.out;omega,vH tB.out HN.out.2.2.2.1,⟨_,HN.out.1,HN.out.2.2.2.2,HN.out.2.2.1⟩⟩
     case measure=>simp[intOf];omega
   obtain rfl:k=r.args.length:=by omega
   obtain⟨q,hq⟩:∃ q,q=pw:=⟨_,rfl⟩
   rw[← hq]at g9 Hk;clear hq;have mN:=HJ.out.box.at_;have gD:=HJ.out.box.own.lt;have oG:=HJ.out.res.own.lt;have cp:wr.there B0 0 (#[.string r.key,.slice wa ws.length wc]:Array Value).size:=aR HJ.out.res.own _ _ (by simp);obtain⟨we,bM⟩:∃ we,we=wr.setCells B0 0 [.string r.key,.slice wa ws.length wc]:=⟨_,rfl⟩
   have fT:we.rangeAt B0 0 [.string r.key,.slice wa ws.length wc]:=by rw[bM];exact World.rangeAt_setCells_same _ _ _ _ cp
   have fz:Marks (fun b=>b=B0) wr we:=by rw[bM];exact aM (S:=fun b=>b=B0) rfl _ _ _
   have Jn:=HJ.out.ord;have cj:Hid (Fr R W0 we∧Rd we R v len q∧TxR we W0.heap.size (.slice wa ws.length wc) ws):=⟨HJ.out.fr.mks fz (fun b e=>by omega) Jn.1,g9.out.mks fz (fun b e=>by omega),TxR.lower (lo:=B7+1) (dE HJ.out.row fz (fun b hb e=>by omega)) (by omega)⟩
   clear fz Jn;go_wp2_with (first|(refine wpList_load_mid rfl 46 _ rfl B7 0 rfl [.string r.key,.slice wa ws.length wc] _ mN Tryz.underlying46 rfl (by kernel_rfl) ?_)|(refine wpList_store_mid rfl 46 _ _ rfl B0 0 #[.string r.key,.slice wa ws.length wc] rfl rfl cp (by kernel_rfl) (by simp[Value.oneCell']) ?_))
   first|rw[← bM]|(simp only[List.toList_toArray];rw[← bM])
   try simp only[Act.put]
   refine bodyPost_ret (v:=.agg #[.string r.key,.slice wa ws.length wc]) (by simp[results,Tryz.results83,asAddr,run_loadVar_mid (P:=Tryz.prog) _ _ _ 46 [.string r.key,.slice wa ws.length wc] _ fT Tryz.underlying46 rfl (by kernel_rfl)]) rfl ?_;exact⟨⟨r.key,_,ws,rfl,cj.out.2.2,by omega,Jj.out,Mn.out⟩,cj.out.1,q,by omega,cj.out.2.1⟩
 subst m0;obtain⟨Fr',sj,L6⟩:=Im.out.rep;obtain⟨F1,v1,F3,v3,E8,hc,r1,r3⟩:=eT sj;injection hc with _ hc
 injection hc with mJ hc
 injection hc with _ hc
 injection hc with PM _
 subst mJ;subst PM;obtain⟨ua,uc,hu⟩:=r3.raw.bm;injection hu with e1 e2 e3
 subst e1;subst e2;subst e3;have Hw:=Bo.out.2.2.1 qk;have Od:=Bo.out.2.1;rcases r3.slice with⟨_,e0,_⟩|⟨p3,o3,c3',u3,m3,G3,Pz,_,_,RN,_,_,vs3,qT,mC⟩
 ·omega
 injection Pz with e1 _ e3
 subst e1;subst e3;have Jd:Hid (∀ j y,(txV r.dflt)[j]? =some y→W5.cell? ((⟨p3,o3,none⟩:Addr).add j)=some y):=by
  intro j y hy;have hev:=mY mC;rw[hev]at qT;have:=qT j y hy;rw[Addr.add_mid];exact this
 have yb:=Im.out.box.get 1 _ rfl;have yr:=Im.out.rul.get 3 _ rfl;have ybl:=Im.out.box.own.lt;have yrl:=Im.out.rul.own.lt;clear sj L6 r1 r3 E8 mC qT RN;go_upto_region 6 with(refine xY rfl _ _ rfl (B7+1) (.slice none 0 0) [] rfl Im.out.row p3 o3 r.dflt.length c3 r.dflt rfl rfl Jd.out (by omega) (by simp;omega) (by omega) ?_;intro g cap W6 q1 q2;have q1':TxR W6 (B7+1) (.slice (some ⟨g,0,none⟩) r.dflt.length cap) r.dflt:=(by simpa using q1);have MR:=Im.out.app q2 q1';have zb:=MR.box.get 1 _ rfl;have zf:=MR.box.own.frozen 1;have zl:=MR.box.own.lt;have Bx:=uh (FV.out.grown q2 (fun b e=>by cases e)))
 obtain⟨W7,P9⟩:∃ W7,W7=W6.setCell ⟨B7,1,none⟩ (.slice (some ⟨g,0,none⟩) r.dflt.length cap):=⟨_,rfl⟩
 have Jt:Hid (LJ W0 W7 R B0 B6 B7 r (.slice a1 r.args.length c1) (.slice (some ⟨p3,o3,none⟩) r.dflt.length c3) (.slice (some ⟨g,0,none⟩) r.dflt.length cap) (.slice (some ⟨g,0,none⟩) r.dflt.length cap) r.dflt):=by rw[P9];exact MR.sto
 have Be:Hid (Rd W7 R v len (p+1+1)):=by rw[P9];exact Bx.out.mks (Marks.sc (S:=fun b=>b=B7) W6 rfl 1 _) (fun b e=>by have:=MR.ord;omega)
 have Jj:=uh Bo.out.2.2.2;rw[← P9];clear P9 MR q1 q1' q2 zb zf zl Bx yb yr ybl yrl Im FV Jd;obtain⟨ws,JL⟩:∃ ws,ws=r.dflt:=⟨_,rfl⟩
 obtain⟨wa,aZ⟩:∃ wa:Option Addr,wa=some ⟨g,0,none⟩:=⟨_,rfl⟩
 obtain⟨wc,hwc⟩:∃ wc,wc=cap:=⟨_,rfl⟩
 obtain⟨q,hq⟩:∃ q,q=p+1+1:=⟨_,rfl⟩
 rw[← JL,← aZ,← hwc]at Jt;rw[← hq]at Be;rw[← JL]at Jj Od;have Hk:q≤p+10:=by omega
 clear JL aZ hwc hq;have mN:=Jt.out.box.at_;have gD:=Jt.out.box.own.lt;have oG:=Jt.out.res.own.lt;have cp:W7.there B0 0 (#[.string r.key,.slice wa ws.length wc]:Array Value).size:=aR Jt.out.res.own _ _ (by simp);obtain⟨we,bM⟩:∃ we,we=W7.setCells B0 0 [.string r.key,.slice wa ws.length wc]:=⟨_,rfl⟩
 have fT:we.rangeAt B0 0 [.string r.key,.slice wa ws.length wc]:=by rw[bM];exact World.rangeAt_setCells_same _ _ _ _ cp
 have fz:Marks (fun b=>b=B0) W7 we:=by rw[bM];exact aM (S:=fun b=>b=B0) rfl _ _ _
 have Jn:=Jt.out.ord;have cj:Hid (Fr R W0 we∧Rd we R v len q∧TxR we W0.heap.size (.slice wa ws.length wc) ws):=⟨Jt.out.fr.mks fz (fun b e=>by omega) Jn.1,Be.out.mks fz (fun b e=>by omega),TxR.lower (lo:=B7+1) (dE Jt.out.row fz (fun b hb e=>by omega)) (by omega)⟩
 clear fz Jn;go_wp2_with (first|(refine wpList_load_mid rfl 46 _ rfl B7 0 rfl [.string r.key,.slice wa ws.length wc] _ mN Tryz.underlying46 rfl (by kernel_rfl) ?_)|(refine wpList_store_mid rfl 46 _ _ rfl B0 0 #[.string r.key,.slice wa ws.length wc] rfl rfl cp (by kernel_rfl) (by simp[Value.oneCell']) ?_))
 first|rw[← bM]|(simp only[List.toList_toArray];rw[← bM])
 try simp only[Act.put]
 refine bodyPost_ret (v:=.agg #[.string r.key,.slice wa ws.length wc]) (by simp[results,Tryz.results83,asAddr,run_loadVar_mid (P:=Tryz.prog) _ _ _ 46 [.string r.key,.slice wa ws.length wc] _ fT Tryz.underlying46 rfl (by kernel_rfl)]) rfl ?_;exact⟨⟨r.key,_,ws,rfl,cj.out.2.2,by omega,Jj.out,Mn.out⟩,cj.out.1,q,by omega,cj.out.2.1⟩
end Go.Proofs.YtopjjknojnfhmaaGreatDoor
