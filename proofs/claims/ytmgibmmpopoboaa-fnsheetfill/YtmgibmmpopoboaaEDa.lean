import Derived.Deep.DeepCutAuto
import Derived.Test.YtmgibmmpopoboaaEBy
namespace Go.Proofs.Ytmgibmmpopoboaa
set_option maxRecDepth 8000
set_option maxHeartbeats 40000000
open Go.RowKit Go.Deep
def Fj (W:World) (R:Nat) (v:Value) (n:Nat):Prop:=
 (∃ a c,v=.slice a 0 c∧n=0)∨∃ b off cap,v=.slice (some ⟨b,off,none⟩) n cap∧b<R∧∀ i,i<n→∃ x:Int,0≤x∧x<256∧W.cell? ⟨b,off+i,none⟩=some (.int .u8 x)
structure Rd (W:World) (R:Nat) (v:Value) (n:Nat) (p:Nat):Prop where
 own:aL W R 76 2
 c0:W.cell? ⟨R,0,none⟩=some v
 c1:W.cell? ⟨R,1,none⟩=some (.int .i64 (p:Nat))
 len:n≤2000
 code:Fj W R v n
structure Fr (R:Nat) (W W':World):Prop where
 bel:Below R W W'
 blk:∀ k,R<k→k<W.heap.size→W'.heap[k]? =W.heap[k]?
theorem Fr.trans {R:Nat} {a b c:World} (h:Fr R a b) (k:Fr R b c):Fr R a c:=
 ⟨h.bel.trans k.bel,fun i h1 h2=>(k.blk i h1 (zL h2 h.bel.size)).trans (h.blk i h1 h2)⟩
theorem Fr.bh {R:Nat} {a b:World} (h:Bel a b) (hR:R<a.heap.size):Fr R a b:=
 ⟨h.mono (Nat.le_of_lt hR),fun k _ h2=>h.block k h2⟩
theorem Fr.pick {R:Nat} (W:World) (j:Nat) (u:Value):Fr R W (W.setCell ⟨R,j,none⟩ u):=
 ⟨zR.setCell (p:=⟨R,j,none⟩) zE u,fun k h1 _=>Below.heap_setCell _ _ _ _ (by show k≠R;omega)⟩
def kD (n r:Int):Prop:=0≤r∧(1≤n→r<n)∧(n<1→r=0)
theorem ur (Y:Int) (h0:0≤Y) (h1:Y≤1000000000000000):0≤bits BinOp.xor IntKind.i64 Y (Y / 64):=by
 obtain⟨y,rfl⟩:=Int.eq_ofNat_of_zero_le h0;have e:((y:Int) / 64)=((y / 64:Nat):Int):=(Int.natCast_ediv y 64).symm;rw[e];unfold bits;have hy:y<2 ^ 60:=by omega
 have hz:y / 64<2 ^ 60:=by omega
 have hx:y ^^^ (y / 64)<2 ^ 60:=Nat.xor_lt_two_pow hy hz;have t:(BitVec.ofInt IntKind.i64.bits (y:Int) ^^^ BitVec.ofInt IntKind.i64.bits ((y / 64:Nat):Int)).toNat=y ^^^ (y / 64):=by
  rw[BitVec.toNat_xor,BitVec.ofInt_natCast,BitVec.ofInt_natCast,BitVec.toNat_ofNat,BitVec.toNat_ofNat];rw[Nat.mod_eq_of_lt (a:=y),Nat.mod_eq_of_lt (a:=y / 64)]
  ·show y / 64<2 ^ 64;omega
  ·show y<2 ^ 64;omega
 show 0≤IntKind.i64.wrap _;rw[t,wrap_small _ (by omega) (by omega)];omega
theorem Rd.step {W:World} {R:Nat} {v:Value} {n p:Nat} (h:Rd W R v n p):Rd (W.setCell ⟨R,1,none⟩ (.int .i64 ((p:Int)+1))) R v n (p+1):=by
 refine⟨h.own.setCell 1 _,(l4 _ _ _ _ _ _ (Or.inr (by omega))).trans h.c0, ?_,h.len, ?_⟩
 ·rw[qZ h.own _ (by omega)];simp
 ·rcases h.code with hq|⟨b,off,cap,rfl,hb,hx⟩
  ·exact Or.inl hq
  ·refine Or.inr ⟨b,off,cap,rfl,hb,fun i hi=> ?_⟩;obtain⟨x,h0,h1,hc⟩:=hx i hi;exact⟨x,h0,h1,(l4 _ _ _ _ _ _ (Or.inl (by omega))).trans hc⟩
theorem Rd.ae {W W':World} {R:Nat} {v:Value} {n p:Nat} (h:Rd W R v n p) (hb:Bel W W'):Rd W' R v n p:=by
 have hl:=h.own.lt;refine⟨h.own.ae hb,(hb.cell (p:=⟨R,0,none⟩) hl).trans h.c0,(hb.cell (p:=⟨R,1,none⟩) hl).trans h.c1,h.len, ?_⟩;rcases h.code with hq|⟨b,off,cap,rfl,dP,hx⟩
 ·exact Or.inl hq
 ·refine Or.inr ⟨b,off,cap,rfl,dP,fun i hi=> ?_⟩;obtain⟨x,h0,h1,hc⟩:=hx i hi;exact⟨x,h0,h1,(hb.cell (p:=⟨b,off+i,none⟩) (by show b<_;omega)).trans hc⟩
theorem Fr.drewN {R:Nat} {a b:World} (h:Fr R a b) (n:Nat):Fr R a (b.drewN n):=⟨⟨h.bel.os,h.bel.tape,h.bel.output,h.bel.size,h.bel.block⟩,h.blk⟩
theorem Af (w:World) (p:Addr) (u:Value):(w.setCell p u).heap.size=w.heap.size:=by simp[World.setCell]
theorem bp (R:Nat) (v:Value) (len p:Nat) (n:Int) (W:World) (h:Rd W R v len p) (hp:p≤1000000000000) (hn:n≤1000):
  Calls Try.prog 40 #[.pointer (some ⟨R,0,none⟩),.int .i64 n] W fun e W'=>(∃ r:Int,e=.returned (.int .i64 r)∧kD n r)∧Fr R W W'∧Rd W' R v len (p+1):=by
 have Il:=h.own.frozen;have bN:=h.own.lt;have x0:=h.c0;have x1:=h.c1;have hlen:=h.len;obtain⟨W1,gq⟩:∃ W1,W1=W.setCell ⟨R,1,none⟩ (.int .i64 ((p:Int)+1)):=⟨_,rfl⟩
 have HC:Hid (Fj W1 R v len):=by
  rcases h.code with hq|⟨b,off,cap,rfl,hb,hx⟩
  ·exact Or.inl hq
  ·refine Or.inr ⟨b,off,cap,rfl,hb,fun i hi=> ?_⟩;obtain⟨x,h0,h1,hc⟩:=hx i hi;refine⟨x,h0,h1, ?_⟩;rw[gq,l4 _ _ _ _ _ _ (Or.inl (by omega))];exact hc
 have y0:W1.cell? ⟨R,0,none⟩=some v:=by rw[gq,l4 _ _ _ _ _ _ (Or.inr (by omega))];exact x0
 have y1:W1.cell? ⟨R,1,none⟩=some (.int .i64 ((p:Int)+1)):=by rw[gq,qZ h.own _ (by omega)]
 have gi:R<W1.heap.size:=by rw[gq,Af];exact bN
 have tg:Hid (∀ k,Fr R W (W1.drewN k)∧Rd (W1.drewN k) R v len (p+1)):=fun k=>by rw[gq];exact⟨(Fr.pick W 1 _).drewN k,h.step.ae (eo zR k)⟩
 clear h;go_enter Try.func40,Try.ntmps40
 go_upto_region 2 with fail
 rw[← gq];clear gq;rcases HC.out with⟨a,c,rfl,rfl⟩|⟨b,off,cap,rfl,hb,hx⟩
 ·by_cases c1:n<1
  ·go_wp2;go_ret;exact⟨⟨0,rfl,by unfold kD;omega⟩,tg.out 0⟩
  ·go_wp2;go_ret;exact⟨⟨0,rfl,by unfold kD;omega⟩,tg.out 0⟩
 ·by_cases c1:n<1
  ·go_wp2;go_ret;exact⟨⟨0,rfl,by unfold kD;omega⟩,tg.out 0⟩
  by_cases c2:len=0
  ·subst c2;go_wp2;go_ret;exact⟨⟨0,rfl,by unfold kD;omega⟩,tg.out 0⟩
  by_cases c3:p<len
  ·obtain⟨x,h0,h1,hc⟩:=hx p c3;have hbz:b<W1.heap.size:=by omega
   have GX:¬ ((len:Int)=0):=by omega
   have c3':((p:Int)<(len:Int)):=by omega
   go_wp2;go_ret;refine⟨⟨_,rfl, ?_⟩,tg.out 0⟩;have e1:=Int.emod_nonneg x (b:=n) (by omega);have e2:=Int.emod_lt_of_pos x (b:=n) (by omega);unfold kD;omega
  ·obtain⟨m1,e1⟩:∃ m1:Nat,m1=p % len:=⟨_,rfl⟩
   obtain⟨m2,e2⟩:∃ m2:Nat,m2=(p*7+3) % len:=⟨_,rfl⟩
   have k1:m1<len:=by rw[e1];exact Nat.mod_lt _ (by omega)
   have k2:m2<len:=by rw[e2];exact Nat.mod_lt _ (by omega)
   have f1:(p:Int) % (len:Int)=(m1:Int):=by rw[e1];exact(Int.natCast_emod p len).symm
   have f2:((p:Int)*7+3) % (len:Int)=(m2:Int):=by rw[e2,Int.natCast_emod];norm_cast
   obtain⟨m3,e3⟩:∃ m3:Nat,m3=p / len:=⟨_,rfl⟩
   have f3:(p:Int) / (len:Int)=(m3:Int):=by rw[e3];exact(Int.natCast_ediv p len).symm
   have k3:m3≤1000000000000:=by rw[e3];exact Nat.le_trans (Nat.div_le_self p len) hp
   clear e1 e2 e3;obtain⟨x,h0,h1,hc⟩:=hx _ k1;obtain⟨z,g0,g1,gc⟩:=hx _ k2;have hbz:b<W1.heap.size:=by omega
   have GX:¬ ((len:Int)=0):=by omega
   have c3':¬ ((p:Int)<(len:Int)):=by omega
   go_wp2;go_quiet (fail)
   obtain⟨Y,hY⟩:∃ Y:Int,Y=x*131+z*1117+(p:Int)*29+(m3:Int)*53:=⟨_,rfl⟩
   have hY0:0≤Y:=by omega
   have hY1:Y≤1000000000000000:=by omega
   rw[← hY];clear hY;have hz:=ur Y hY0 hY1;obtain⟨Z,hZ⟩:∃ Z,Z=bits BinOp.xor IntKind.i64 Y (Y / 64):=⟨_,rfl⟩
   rw[← hZ]at hz;have hZ':=hZ.symm;clear hZ;go_wp2;go_ret;refine⟨⟨_,rfl, ?_⟩,tg.out nq⟩;have e1:=Int.emod_nonneg Z (b:=n) (by omega);have e2:=Int.emod_lt_of_pos Z (b:=n) (by omega);unfold kD;omega
theorem Fr.cell {R:Nat} {a b:World} (h:Fr R a b) {k j:Nat} (h1:R<k) (h2:k<a.heap.size):b.cell? ⟨k,j,none⟩=a.cell? ⟨k,j,none⟩:=by
 simp only[World.cell?];rw[h.blk k h1 h2]
theorem vx (m s:Nat):(2*m+1)*s=m*(s+s)+s:=by
 rw[Nat.add_mul,Nat.mul_assoc,Nat.mul_add];omega
theorem rT (m s:Nat):(2*m)*s=m*(s+s):=by
 rw[Nat.mul_assoc,Nat.mul_add];omega
theorem lx (s0:ByteArray) (n0 N:Nat) (W:World) (h1:s0.size≤4) (h2:n0≤1000) (hT:n0*s0.size≤N) (hN4:N≤4000):
  Calls Try.prog 85 #[.string s0,.int .i64 (n0:Nat)] W fun e W'=>(∃ s:ByteArray,e=.returned (.string s)∧s.size≤N)∧W=W':=by
 go_enter Try.func85,Try.ntmps85
 go_wp2;go_loopw [0,1,5] (fun s i o wr=>∃ (sb ob:ByteArray) (n:Nat),s=.string sb∧o=.string ob∧i=.int .i64 (n:Nat)∧ob.size+n*sb.size≤N∧n≤1000∧(1≤n→sb.size≤4000)∧wr=W) (fun _ i _ _=>(intOf i).toNat)
 case atStart=>exact⟨s0,⟨#[]⟩,n0,rfl,rfl,rfl,by have:(⟨#[]⟩:ByteArray).size=0:=rfl;omega,h2,fun _=>by omega,rfl⟩
 case round=>
  obtain⟨sb,ob,n,rfl,rfl,rfl,hs,hn,hsb,rfl⟩:=hrel;have HS:Hid (ob.size+n*sb.size≤N):=hs;have hob:ob.size≤N:=by have:=Nat.zero_le (n*sb.size);omega
  clear hs;by_cases c0:n=0
  ·subst c0;go_wp2;go_ret;exact⟨⟨ob,rfl,hob⟩,rfl⟩
  ·have hsb':=hsb (by omega);have c1:(0:Int)<(n:Int):=by omega
   obtain⟨m,hm⟩:∃ m:Nat,m=n / 2:=⟨_,rfl⟩
   have f1:((n:Int) / 2)=(m:Int):=by omega
   by_cases c2:n % 2=1
   ·have f2:((n:Int) % 2)=1:=by omega
    have HN:Hid (n=2*m+1):=by show n=_;omega
    have ld:m<n:=by omega
    clear hm;go_wp2;go_roundw
    case rel=>
     refine⟨sb++sb,ob++sb,m,rfl,rfl,by go_num, ?_,by omega,fun h=> ?_,trivial⟩
     ·have h:=HS.out;rw[HN.out,vx]at h;rw[ByteArray.size_append,ByteArray.size_append];omega
     ·have h':=HS.out;rw[HN.out,vx]at h';have:1*(sb.size+sb.size)≤m*(sb.size+sb.size):=Nat.mul_le_mul_right _ h;rw[ByteArray.size_append];omega
    case measure=>simp[intOf];omega
   ·have f2:((n:Int) % 2)=0:=by omega
    have HN:Hid (n=2*m):=by show n=_;omega
    have ld:m<n:=by omega
    clear hm;go_wp2;go_roundw
    case rel=>
     refine⟨sb++sb,ob,m,rfl,rfl,by go_num, ?_,by omega,fun h=> ?_,trivial⟩
     ·have h:=HS.out;rw[HN.out,rT]at h;rw[ByteArray.size_append];omega
     ·have h':=HS.out;rw[HN.out,rT]at h';have:1*(sb.size+sb.size)≤m*(sb.size+sb.size):=Nat.mul_le_mul_right _ h;rw[ByteArray.size_append];omega
    case measure=>simp[intOf];omega
theorem sT (s0:ByteArray) (n0:Nat) (W:World) (h1:s0.size≤4) (h2:n0≤1000):
  Calls Try.prog 85 #[.string s0,.int .i64 (n0:Nat)] W fun e W'=>(∃ s:ByteArray,e=.returned (.string s)∧s.size≤4000)∧W=W':=lx s0 n0 4000 W h1 h2 (Nat.mul_le_mul h2 h1) zE
def ij (W:World) (v:Value):Prop:=
 (∃ a c,v=.slice a 0 c)∨∃ b off n cap,v=.slice (some ⟨b,off,none⟩) n cap∧b<W.heap.size∧n≤cap∧cap≤maxLen∧∀ i,i<n→∃ x:Int,0≤x∧x<256∧W.cell? ⟨b,off+i,none⟩=some (.int .u8 x)
theorem ij.ae {W W':World} {v:Value} (h:ij W v) (hb:Bel W W'):ij W' v:=by
 rcases h with h|⟨b,off,n,cap,rfl,h1,h2,h4,h3⟩
 ·exact Or.inl h
 ·refine Or.inr ⟨b,off,n,cap,rfl,zL h1 hb.size,h2,h4,fun i hi=> ?_⟩;obtain⟨x,x0,x1,hx⟩:=h3 i hi;exact⟨x,x0,x1,(hb.cell (p:=⟨b,off+i,none⟩) h1).trans hx⟩
theorem uq (W:World) (v:Value) (n:Nat) (hn:n≤2000) (h:Fj W W.heap.size v n):Rd (W.alloc (.cells #[v,.int .i64 0] 76)) W.heap.size v n 0:=by
 refine⟨aL.alloc _ _ _ _ rfl,by rw[World.cell?_alloc_at _ _ _ _ rfl];rfl,by rw[World.cell?_alloc_at _ _ _ _ rfl];rfl,hn, ?_⟩;rcases h with h|⟨b,off,cap,rfl,hb,hx⟩
 ·exact Or.inl h
 ·refine Or.inr ⟨b,off,cap,rfl,hb,fun i hi=> ?_⟩;obtain⟨x,x0,x1,hx⟩:=hx i hi;exact⟨x,x0,x1,((ah zR _:Bel W _).cell (p:=⟨b,off+i,none⟩) hb).trans hx⟩
theorem sS (v:Value) (W:World) (h:ij W v):
  Calls Try.prog 18 #[v] W fun e W'=>(∃ (v':Value) (len:Nat),e=.returned (.pointer (some ⟨W.heap.size,0,none⟩))∧Rd W' W.heap.size v' len 0)∧Bel W W':=by
 rcases h with⟨a,c,rfl⟩|⟨b,off,n,cap,rfl,h1,h2,h4,h3⟩
 ·have HN:Hid (Rd (W.alloc (.cells #[.slice a 0 c,.int .i64 0] 76)) W.heap.size (.slice a 0 c) 0 0):=uq W _ 0 (by omega) (Or.inl ⟨a,c,rfl,rfl⟩);go_enter Try.func18,Try.ntmps18
  go_wp2;go_ret
  first|exact⟨⟨_,_,rfl,HN.out⟩,ah zR _⟩|exact⟨⟨rfl,_,_,HN.out⟩,ah zR _⟩
 ·unfold maxLen at h4;by_cases c0:2000<n
  ·have HN:Hid (Rd (W.alloc (.cells #[.slice (some ⟨b,off,none⟩) 2000 cap,.int .i64 0] 76)) W.heap.size (.slice (some ⟨b,off,none⟩) 2000 cap) 2000 0):=uq W _ 2000 (by omega) (Or.inr ⟨b,off,cap,rfl,h1,fun i hi=>h3 i (by omega)⟩);have c1:(2000:Int)<(n:Int):=by omega
   clear h3;go_enter Try.func18,Try.ntmps18
   go_wp2;go_ret
   first|exact⟨⟨_,_,rfl,HN.out⟩,ah zR _⟩|exact⟨⟨rfl,_,_,HN.out⟩,ah zR _⟩
  ·have HN:Hid (Rd (W.alloc (.cells #[.slice (some ⟨b,off,none⟩) n cap,.int .i64 0] 76)) W.heap.size (.slice (some ⟨b,off,none⟩) n cap) n 0):=uq W _ n (by omega) (Or.inr ⟨b,off,cap,rfl,h1,h3⟩);have c1:¬ (2000:Int)<(n:Int):=by omega
   clear h3;go_enter Try.func18,Try.ntmps18
   go_wp2;go_ret
   first|exact⟨⟨_,_,rfl,HN.out⟩,ah zR _⟩|exact⟨⟨rfl,_,_,HN.out⟩,ah zR _⟩
end Go.Proofs.Ytmgibmmpopoboaa
