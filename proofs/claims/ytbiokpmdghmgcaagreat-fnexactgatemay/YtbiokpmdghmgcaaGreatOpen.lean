import Derived.ProofKit
import Derived.OpenShut
import Derived.ShutString
import Derived.ChangeOld
import Derived.SliceStrings
import Derived.Test.YtbiokpmdghmgcaaGreatWalkK
namespace Go.Proofs.YtbiokpmdghmgcaaGreat
open Go.ChangeShapes Go.WideShapes Go.ChangeAt Go.RowKit
theorem gD:Tryz.prog.cellsOf 9=1:=by kernel_rfl
theorem ko:Tryz.prog.cellsOf 3=1:=by kernel_rfl
theorem zI:Tryz.prog.cellsOf 4=1:=by kernel_rfl
theorem vZ:Tryz.prog.cellsOf 94=1:=by kernel_rfl
theorem wI:Tryz.prog.cellsOf 222=11:=by kernel_rfl
theorem zE {α:Type} {l:List α} (h:l.length=11):∃ c0 c1 c2 c3 c4 c5 c6 c7 c8 c9 c10,l=[c0,c1,c2,c3,c4,c5,c6,c7,c8,c9,c10]:=by
 match l,h with
 |[c0,c1,c2,c3,c4,c5,c6,c7,c8,c9,c10],_=>exact⟨c0,c1,c2,c3,c4,c5,c6,c7,c8,c9,c10,rfl⟩
theorem gN {w:World} {a:Addr} {v:Value} (h:w.cell? a=some v):a.block<w.heap.size:=by
 by_cases hb:a.block<w.heap.size
 ·exact hb
 ·exfalso;have:w.heap[a.block]? =none:=by simp;omega
  simp[World.cell?,this]at h
section
variable {H:Type} {enc:TypeId×Value→H} {W:World} {base:Nat} {sp:Nat→Bool} {held:Bool}
theorem lE {fuel:Nat} {v:Value} {x:DataW H×List MemPlace} (h:DataW.trod enc Tryz.prog W base sp held fuel 94 [v]=some x):∃ ss,bU W v ss:=by
 rcases open_strings Tryz.underlying94 Tryz.underlying9 gD h with⟨bP,_⟩|⟨a,len,cap,ss,bP,_,hl,hm,hz,_,hc,hs⟩
 ·simp only[List.cons.injEq,and_true]at bP;exact⟨[],Or.inl ⟨none,0,bP,rfl⟩⟩
 ·simp only[List.cons.injEq,and_true]at bP;have hle:len≤ss.length:=by rw[hz];split<;>omega
  by_cases h0:len=0
  ·subst h0;exact⟨[],Or.inl ⟨some a,cap,bP,rfl⟩⟩
  ·obtain⟨b,off,spot⟩:=a;have vv:=hc 0 (by omega);have gu:spot=none:=by simpa [Addr.add]using World.cell?_spot vv
   subst gu;have hlen:(ss.take len).length=len:=by simp;omega
   refine⟨ss.take len,Or.inr ⟨b,off,cap,by rw[hlen];exact bP,gN vv,fun i hi=> ?_,by rw[hlen];omega,fun i hi=> ?_⟩⟩
   ·rw[hlen]at hi;have BZ:i<ss.length:=by omega
    have e:(ss.take len).getD i ByteArray.empty=ss[i]:=by simp[hi,BZ]
    rw[e];exact hs _ (List.getElem_mem BZ)
   ·rw[hlen]at hi;have e:(ss.take len).getD i ByteArray.empty=ss.getD i ByteArray.empty:=by simp[hi]
    rw[e];have:=hc i (by omega);by_cases wX:i=0
    ·subst wX;simpa [Addr.add]using this
    ·simpa [Addr.add,wX]using this
theorem oT {fuel:Nat} {cs:List Value} {x:DataW H×List MemPlace} (h:DataW.trod enc Tryz.prog W base sp held fuel 222 cs=some x):
  ∃ (nm:ByteArray) (kind least most:Int) (vs:Value) (to:ByteArray) (role:Int) (must fixed:Bool) (de we:ByteArray) (ss:List ByteArray),
   cs=[.string nm,.int .i64 kind,.int .i64 least,.int .i64 most,vs,.string to,.int .i64 role,.bool must,.bool fixed,.string de,.string we]∧
   nm.size≤maxLen∧to.size≤maxLen∧de.size≤maxLen∧we.size≤maxLen∧bU W vs ss:=by
 obtain⟨xs,n,_,_,hlen,lK,aw⟩:=DataW.trod_struct Tryz.underlying222 h;rw[wI]at hlen;obtain⟨c0,c1,c2,c3,c4,c5,c6,c7,c8,c9,c10,rfl⟩:=zE hlen;obtain⟨y0,y1,y2,y3,y4,y5,y6,y7,y8,y9,y10,rfl⟩:=zE (l:=xs) (by simpa using lK);have a0:=aw 0 _ rfl;have a1:=aw 1 _ rfl;have a2:=aw 2 _ rfl;have a3:=aw 3 _ rfl;have a4:=aw 4 _ rfl;have a5:=aw 5 _ rfl;have a6:=aw 6 _ rfl;have a7:=aw 7 _ rfl;have a8:=aw 8 _ rfl;have a9:=aw 9 _ rfl;have a10:=aw 10 _ rfl;simp[gD,ko,zI,vZ]at a0 a1 a2 a3 a4 a5 a6 a7 a8 a9 a10;obtain⟨nm,e0,_,s0⟩:=DataW.trod_string Tryz.underlying9 a0;obtain⟨kind,e1,_,_⟩:=DataW.trod_int Tryz.underlying3 a1;obtain⟨least,e2,_,_⟩:=DataW.trod_int Tryz.underlying3 a2;obtain⟨most,e3,_,_⟩:=DataW.trod_int Tryz.underlying3 a3;obtain⟨ss,t4⟩:=lE a4;obtain⟨to,e5,_,s5⟩:=DataW.trod_string Tryz.underlying9 a5;obtain⟨role,e6,_,_⟩:=DataW.trod_int Tryz.underlying3 a6;obtain⟨must,e7,_⟩:=DataW.trod_bool Tryz.underlying4 a7;obtain⟨fixed,e8,_⟩:=DataW.trod_bool Tryz.underlying4 a8;obtain⟨de,e9,_,s9⟩:=DataW.trod_string Tryz.underlying9 a9;obtain⟨we,e10,_,yL⟩:=DataW.trod_string Tryz.underlying9 a10;simp only[List.cons.injEq,and_true]at e0 e1 e2 e3 e5 e6 e7 e8 e9 e10;subst e0 e1 e2 e3 e5 e6 e7 e8 e9 e10;exact⟨nm,kind,least,most,c4,to,role,must,fixed,de,we,ss,rfl,s0,s5,s9,yL,t4⟩
end
end Go.Proofs.YtbiokpmdghmgcaaGreat
